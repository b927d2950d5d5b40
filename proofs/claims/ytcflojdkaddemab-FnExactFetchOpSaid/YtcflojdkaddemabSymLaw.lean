/- The laws' own functions on one token: its size, and the program's token made of it. -/
import Derived.Test.YtcflojdkaddemabRows
import Derived.Test.YtcflojdkaddemabImgPlain
import Derived.Outline
import Derived.Lib.Hide
import Derived.Below
namespace Go.Proofs.Ytcflojdkaddemab
open Go.RowKit Go.Lib

theorem infoSy : (Try.prog.info? 54).map (fun i => (i.zero, i.size, i.bytes)) = some (some (.agg #[.string ⟨#[]⟩, .int .i64 0, .int .i64 0]), 3, 32) := by kernel_rfl
theorem l_szSymbol (s : ByteArray) (k n : Int) (left : Int) (w : World) (hm : s.size ≤ maxLen) (h0 : 0 ≤ left) (h1 : left ≤ 1048576) (h2 : (s.size : Int) ≤ left) :
    Calls Try.prog 57 #[.agg #[.string s, .int .i64 k, .int .i64 n], .int .i64 left] w fun e w' => e = .returned (.int .i64 (left - (s.size : Int))) ∧ Below w.heap.size w w' := by
  unfold maxLen at hm
  go_enter Try.func57, Try.ntmps57
  go_wp2
  all_goals go_ret
  all_goals exact ⟨rfl, (Below.refl _ _).alloc (Nat.le_refl _) _⟩
theorem l_szSymbol_big (s : ByteArray) (k n : Int) (left : Int) (w : World) (hm : s.size ≤ maxLen) (h0 : 0 ≤ left) (h1 : left ≤ 1048576) (h2 : left < (s.size : Int)) :
    Calls Try.prog 57 #[.agg #[.string s, .int .i64 k, .int .i64 n], .int .i64 left] w fun e w' => e = .returned (.int .i64 (-1)) ∧ Below w.heap.size w w' := by
  unfold maxLen at hm
  go_enter Try.func57, Try.ntmps57
  go_wp2
  all_goals go_ret
  all_goals exact ⟨rfl, (Below.refl _ _).alloc (Nat.le_refl _) _⟩

theorem l_toSymbol (s : ByteArray) (k n : Int) (w : World) :
    Calls Try.prog 58 #[.agg #[.string s, .int .i64 k, .int .i64 n]] w fun e w' => e = .returned (.agg #[.string s, .int .i64 k, .int .i64 n]) ∧ Below w.heap.size w w' := by
  go_enter Try.func58, Try.ntmps58
  go_wp2
  refine bodyPost_ret (v := .agg #[.string s, .int .i64 k, .int .i64 n]) (by simp [results, Try.results58, go_sem]) rfl ⟨rfl, ?_⟩
  exact (((Below.refl _ _).alloc (Nat.le_refl _) _).alloc (by simp) _).alloc (by simp; omega) _
end Go.Proofs.Ytcflojdkaddemab
