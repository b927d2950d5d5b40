/- BuildOk, of the model and of the program. -/
import Derived.Test.YtbccejnkklopfaaRows
import Derived.Test.YtbccejnkklopfaaPlainA
import Derived.Outline
import Derived.Lib.Hide
import Derived.Below
namespace Go.Proofs.Ytbccejnkklopfaa
open Go.RowKit Go.Lib

def bldB (a b : Int) : Bool := (decide (0 ≤ a) && decide (a ≤ 63)) && (decide (0 ≤ b) && decide (b ≤ 3))
theorem ret_b8 {p q : Bool} (h : p = q) : Ending.returned (.bool p) = .returned (.bool q) := by rw [h]
theorem s_in8 (x a b : Int) (w : World) : Calls Try.prog 13 #[.int .i64 x, .int .i64 a, .int .i64 b] w fun e w' => e = .returned (.bool (decide (a ≤ x) && decide (x ≤ b))) ∧ w = w' := by
  by_cases h1 : a ≤ x <;> by_cases h2 : x ≤ b
  all_goals
    go_enter Try.func13, Try.ntmps13
    go_wp2
    go_ret
    exact ⟨ret_b8 (by simp [h1, h2]), rfl⟩
theorem s_buildOk (a b : Int) (c d : Bool) (w : World) : Calls Try.prog 5 #[.agg #[.int .i64 a, .int .i64 b, .bool c, .bool d]] w fun e w' => e = .returned (.bool (bldB a b)) ∧ Below w.heap.size w w' := by
  have I1 := Lib.hid (fun W => s_in8 a 0 63 W)
  have I2 := Lib.hid (fun W => s_in8 b 0 3 W)
  unfold bldB
  obtain ⟨p, hp⟩ : ∃ p, (decide (0 ≤ a) && decide (a ≤ 63)) = p := ⟨_, rfl⟩
  obtain ⟨q, hq⟩ : ∃ q, (decide (0 ≤ b) && decide (b ≤ 3)) = q := ⟨_, rfl⟩
  rw [hp] at I1 ⊢
  rw [hq] at I2 ⊢
  clear hp hq
  go_enter Try.func5, Try.ntmps5
  cases p
  · go_wp2_with fail
    refine (I1.out _).mono ?_
    rintro e w1 ⟨rfl, rfl⟩
    go_wp2_with fail
    go_ret
    exact ⟨rfl, (Below.refl _ _).alloc (Nat.le_refl _) _⟩
  · go_wp2_with fail
    refine (I1.out _).mono ?_
    rintro e w1 ⟨rfl, rfl⟩
    go_wp2_with fail
    refine (I2.out _).mono ?_
    rintro e w1 ⟨rfl, rfl⟩
    go_wp2_with fail
    go_ret
    exact ⟨rfl, (Below.refl _ _).alloc (Nat.le_refl _) _⟩
theorem i_buildOk (a b : Int) (c d : Bool) (w : World) : Calls Try.prog 7 #[.agg #[.int .i64 a, .int .i64 b, .bool c, .bool d]] w fun e w' => e = .returned (.bool (bldB a b)) ∧ Below w.heap.size w w' := by
  unfold bldB
  by_cases h1 : 0 ≤ a <;> by_cases h2 : a ≤ 63 <;> by_cases h3 : 0 ≤ b <;> by_cases h4 : b ≤ 3
  all_goals first
    | (exfalso; omega)
    | (go_enter Try.func7, Try.ntmps7
       go_wp2
       go_ret
       exact ⟨ret_b8 (by simp [h1, h2, h3, h4]), (Below.refl _ _).alloc (Nat.le_refl _) _⟩)
end Go.Proofs.Ytbccejnkklopfaa
