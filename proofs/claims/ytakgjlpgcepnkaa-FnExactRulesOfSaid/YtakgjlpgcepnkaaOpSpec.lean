/- The model's l07Width and OpSize. -/
import Derived.Test.YtakgjlpgcepnkaaRows
import Derived.Test.YtakgjlpgcepnkaaOpPlain
import Derived.Outline
import Derived.Lib.Hide
import Derived.Below
namespace Go.Proofs.Ytakgjlpgcepnkaa
open Go.RowKit Go.Lib

theorem ret_b7 {a b : Bool} (h : a = b) : Ending.returned (.bool a) = .returned (.bool b) := by rw [h]
theorem ret_i7 {k : IntKind} {a b : Int} (h : a = b) : Ending.returned (.int k a) = .returned (.int k b) := by rw [h]

/-- A code with an argument, or none of them. -/
theorem code_cases (c : Int) : c = 0 ∨ c = 1 ∨ c = 2 ∨ c = 3 ∨ c = 4 ∨ c = 10 ∨ c = 11 ∨ c = 16 ∨ c = 12 ∨ c = 13 ∨ c = 14 ∨ c = 15 ∨
    ((c == 0) = false ∧ (c == 1) = false ∧ (c == 2) = false ∧ (c == 3) = false ∧ (c == 4) = false ∧ (c == 10) = false ∧ (c == 11) = false ∧ (c == 16) = false ∧ (c == 12) = false ∧ (c == 13) = false ∧ (c == 14) = false ∧ (c == 15) = false) := by
  simp only [beq_eq_false_iff_ne]
  omega
theorem widN_none (c : Int) (h : (c == 0) = false ∧ (c == 1) = false ∧ (c == 2) = false ∧ (c == 3) = false ∧ (c == 4) = false ∧ (c == 10) = false ∧ (c == 11) = false ∧ (c == 16) = false ∧ (c == 12) = false ∧ (c == 13) = false ∧ (c == 14) = false ∧ (c == 15) = false) : widN c = 0 ∧ sgnB c = false := by
  simp only [beq_eq_false_iff_ne] at h
  unfold widN sgnB
  rw [if_neg (by omega), if_neg (by omega), if_neg (by omega)]
  refine ⟨rfl, ?_⟩
  simp only [Bool.or_eq_false_iff, Bool.and_eq_false_iff, decide_eq_false_iff_not]
  omega

theorem s_wid (c : Int) (w : World) : Calls Try.prog 42 #[.int .i64 c] w fun e w' => e = .returned (.tuple #[.int .i64 (widN c : Int), .bool (sgnB c)]) ∧ w = w' := by
  rcases code_cases c with rfl | rfl | rfl | rfl | rfl | rfl | rfl | rfl | rfl | rfl | rfl | rfl | h
  case inr.inr.inr.inr.inr.inr.inr.inr.inr.inr.inr.inr =>
    have HW := Lib.hid (widN_none c h)
    obtain ⟨h0, h1, h2, h3, h4, h5, h6, h7, h8, h9, h10, h11⟩ := h
    go_enter Try.func42, Try.ntmps42
    go_wp2
    go_ret2
    exact ⟨by rw [HW.out.1, HW.out.2]; rfl, rfl⟩
  all_goals
    go_enter Try.func42, Try.ntmps42
    go_wp2
    go_ret2
    exact ⟨rfl, rfl⟩

theorem s_in7 (x lo hi : Int) (w : World) : Calls Try.prog 32 #[.int .i64 x, .int .i64 lo, .int .i64 hi] w fun e w' => e = .returned (.bool (decide (lo ≤ x) && decide (x ≤ hi))) ∧ w = w' := by
  by_cases h1 : lo ≤ x <;> by_cases h2 : x ≤ hi
  all_goals
    go_enter Try.func32, Try.ntmps32
    go_wp2
    go_ret
    exact ⟨ret_b7 (by simp [h1, h2]), rfl⟩

theorem s_code (c : Int) (w : World) : Calls Try.prog 32 #[.int .i64 c, .int .i64 0, .int .i64 17] w fun e w' => e = .returned (.bool (codeB c)) ∧ w = w' := s_in7 c 0 17 w

theorem s_size (c : Int) (w : World) : Calls Try.prog 12 #[.int .i64 c] w fun e w' => e = .returned (.int .i64 (sizZ c)) ∧ w = w' := by
  have hw := widN_le c
  obtain ⟨m, hm⟩ : ∃ m : Nat, widN c = m := ⟨_, rfl⟩
  have S := Lib.hid (fun W => s_wid c W)
  rw [hm] at S hw
  have C := Lib.hid (fun W => s_code c W)
  have HR : Hid (sizZ c = if codeB c = true then 1 + (m : Int) else 0) := Lib.hid (by unfold sizZ; rw [hm])
  clear hm
  obtain ⟨b, hb⟩ : ∃ b, codeB c = b := ⟨_, rfl⟩
  rw [hb] at C HR
  clear hb
  cases b
  all_goals
    go_enter Try.func12, Try.ntmps12
    go_wp2_with (first | (go_at_call 32; refine (C.out _).mono ?_; rintro e w' ⟨rfl, rfl⟩) | (go_at_call 42; refine (S.out _).mono ?_; rintro e w' ⟨rfl, rfl⟩))
    go_ret
    exact ⟨ret_i7 HR.out.symm, rfl⟩

/-- An argument fits, by its bounds. -/
theorem insB_eq (c a : Int) : insB ⟨c, a⟩ = (codeB c && (decide (loZ c ≤ a) && decide (a ≤ hiZ c))) := rfl
theorem fit_cases (c : Int) : (widN c = 0 ∧ sgnB c = false ∧ loZ c = 0 ∧ hiZ c = 0) ∨ (widN c = 1 ∧ sgnB c = false ∧ loZ c = 0 ∧ hiZ c = 255) ∨ (widN c = 2 ∧ sgnB c = false ∧ loZ c = 0 ∧ hiZ c = 65535) ∨
    (widN c = 2 ∧ sgnB c = true ∧ loZ c = -32768 ∧ hiZ c = 32767) ∨ (widN c = 4 ∧ sgnB c = true ∧ loZ c = -2147483648 ∧ hiZ c = 2147483647) := by
  rcases code_cases c with rfl | rfl | rfl | rfl | rfl | rfl | rfl | rfl | rfl | rfl | rfl | rfl | h
  case inr.inr.inr.inr.inr.inr.inr.inr.inr.inr.inr.inr =>
    have HW := widN_none c h
    refine .inl ⟨HW.1, HW.2, ?_, ?_⟩
    · unfold loZ; rw [HW.2]; rfl
    · unfold hiZ; rw [HW.1, HW.2]; rfl
  all_goals decide

end Go.Proofs.Ytakgjlpgcepnkaa
