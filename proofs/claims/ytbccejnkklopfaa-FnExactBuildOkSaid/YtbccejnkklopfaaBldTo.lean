/- The laws' own function on a build: the program's made of it. -/
import Derived.Test.YtbccejnkklopfaaRows
import Derived.Test.YtbccejnkklopfaaPlainA
import Derived.Outline
import Derived.Lib.Hide
import Derived.Below
namespace Go.Proofs.Ytbccejnkklopfaa
open Go.RowKit Go.Lib

theorem l_toBuild (a b : Int) (c d : Bool) (w : World) :
    Calls Try.prog 6 #[.agg #[.int .i64 a, .int .i64 b, .bool c, .bool d]] w fun e w' => e = .returned (.agg #[.int .i64 a, .int .i64 b, .bool c, .bool d]) ∧ Below w.heap.size w w' := by
  go_enter Try.func6, Try.ntmps6
  go_wp2
  refine bodyPost_ret (v := .agg #[.int .i64 a, .int .i64 b, .bool c, .bool d]) (by simp [results, Try.results6, go_sem]) rfl ⟨rfl, ?_⟩
  exact (((Below.refl _ _).alloc (Nat.le_refl _) _).alloc (by simp) _).alloc (by simp; omega) _
end Go.Proofs.Ytbccejnkklopfaa
