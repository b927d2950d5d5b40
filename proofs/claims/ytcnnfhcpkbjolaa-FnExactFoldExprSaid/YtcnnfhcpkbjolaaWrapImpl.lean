/- The program's Wrap and Apply. -/
import Derived.Test.YtcnnfhcpkbjolaaRows
import Derived.Test.YtcnnfhcpkbjolaaWrapPlain
import Derived.Outline
import Derived.Lib.Hide
namespace Go.Proofs.Ytcnnfhcpkbjolaa
open Go.RowKit Go.Lib

theorem ret_i' {k : IntKind} {a b : Int} (h : a = b) : Ending.returned (.int k a) = .returned (.int k b) := by rw [h]

theorem i_wrap (x : Int) (w : World) : Calls Try.prog 35 #[.int .i64 x] w fun e w' => e = .returned (.int .i64 (W32 x)) ∧ w = w' := by
  have h0 := W32_lo x
  have h1 := W32_hi x
  have hr := Lib.hid (W32_wrap x)
  go_enter Try.func35, Try.ntmps35
  go_wp2
  go_ret
  exact ⟨ret_i' (by rw [hr.out]; unfold wrap64; omega), rfl⟩
theorem i_one (b : Bool) (w : World) : Calls Try.prog 36 #[.bool b] w fun e w' => e = .returned (.int .i64 (if b = true then 1 else 0)) ∧ w = w' := by
  cases b
  all_goals
    go_enter Try.func36, Try.ntmps36
    go_wp2
    go_ret
    exact ⟨rfl, rfl⟩

set_option maxHeartbeats 400000 in
theorem i_apply (k a b : Int) (w : World) : Calls Try.prog 28 #[.int .i64 k, .int .i64 a, .int .i64 b] w fun e w' => e = .returned (.int .i64 (appZ k a b)) ∧ w = w' := by
  have ha0 := W32_lo a
  have ha1 := W32_hi a
  have hb0 := W32_lo b
  have hb1 := W32_hi b
  have hm := Lib.hid (mul_bd a b)
  by_cases h2 : k = 2
  · subst h2
    have hr := Lib.hid (appZ_add a b)
    go_enter Try.func28, Try.ntmps28
    go_wp2_with (first | (go_at_call 35; refine (i_wrap _ _).mono ?_; rintro e w' ⟨rfl, rfl⟩))
    go_ret
    exact ⟨ret_i' hr.out.symm, rfl⟩
  by_cases h3 : k = 3
  · subst h3
    have hr := Lib.hid (appZ_sub a b)
    go_enter Try.func28, Try.ntmps28
    go_wp2_with (first | (go_at_call 35; refine (i_wrap _ _).mono ?_; rintro e w' ⟨rfl, rfl⟩))
    go_ret
    exact ⟨ret_i' hr.out.symm, rfl⟩
  by_cases h4 : k = 4
  · subst h4
    have hr := Lib.hid (appZ_mul a b)
    have hm0 := hm.out.1
    have hm1 := hm.out.2
    go_enter Try.func28, Try.ntmps28
    go_wp2_with (first | (go_at_call 35; refine (i_wrap _ _).mono ?_; rintro e w' ⟨rfl, rfl⟩))
    go_ret
    exact ⟨ret_i' hr.out.symm, rfl⟩
  by_cases h5 : k = 5
  · subst h5
    have hr : Hid (appZ 5 a b = if decide (W32 a < W32 b) = true then 1 else 0) := Lib.hid (by show (if W32 a < W32 b then _ else _) = _; simp)
    go_enter Try.func28, Try.ntmps28
    go_wp2_with (first | (go_at_call 35; refine (i_wrap _ _).mono ?_; rintro e w' ⟨rfl, rfl⟩) | (go_at_call 36; refine (i_one _ _).mono ?_; rintro e w' ⟨rfl, rfl⟩))
    all_goals go_ret
    all_goals exact ⟨ret_i' (by rw [hr.out]; simp [*]), rfl⟩
  by_cases h6 : k = 6
  · subst h6
    have hr : Hid (appZ 6 a b = if (W32 a == W32 b) = true then 1 else 0) := Lib.hid (by show (if W32 a = W32 b then _ else _) = _; simp)
    go_enter Try.func28, Try.ntmps28
    go_wp2_with (first | (go_at_call 35; refine (i_wrap _ _).mono ?_; rintro e w' ⟨rfl, rfl⟩) | (go_at_call 36; refine (i_one _ _).mono ?_; rintro e w' ⟨rfl, rfl⟩))
    all_goals go_ret
    all_goals exact ⟨ret_i' (by rw [hr.out]; simp [*]), rfl⟩
  · have hr := Lib.hid (appZ_other k a b h2 h3 h4 h5 h6)
    have e2 : (k == 2) = false := by simpa using h2
    have e3 : (k == 3) = false := by simpa using h3
    have e4 : (k == 4) = false := by simpa using h4
    have e5 : (k == 5) = false := by simpa using h5
    have e6 : (k == 6) = false := by simpa using h6
    clear h2 h3 h4 h5 h6
    go_enter Try.func28, Try.ntmps28
    go_wp2_with (first | (go_at_call 35; refine (i_wrap _ _).mono ?_; rintro e w' ⟨rfl, rfl⟩))
    go_ret
    exact ⟨ret_i' hr.out.symm, rfl⟩
end Go.Proofs.Ytcnnfhcpkbjolaa
