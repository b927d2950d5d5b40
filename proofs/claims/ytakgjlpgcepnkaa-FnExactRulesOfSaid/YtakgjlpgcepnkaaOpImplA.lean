/- The program's isCode, shapeOf and OpSize. -/
import Derived.Test.YtakgjlpgcepnkaaOpSpec
namespace Go.Proofs.Ytakgjlpgcepnkaa
open Go.RowKit Go.Lib

theorem i_code (c : Int) (w : World) : Calls Try.prog 94 #[.int .i64 c] w fun e w' => e = .returned (.bool (codeB c)) ∧ w = w' := by
  by_cases h1 : 0 ≤ c <;> by_cases h2 : c ≤ 17
  all_goals
    go_enter Try.func94, Try.ntmps94
    go_wp2
    go_ret
    exact ⟨ret_b7 (by unfold codeB; simp [h1, h2]), rfl⟩

set_option maxHeartbeats 2000000 in
theorem i_shape (c : Int) (w : World) : Calls Try.prog 95 #[.int .i64 c] w fun e w' => e = .returned (.agg #[.int .i64 (widN c : Int), .bool (sgnB c)]) ∧ Below w.heap.size w w' := by
  rcases code_cases c with rfl | rfl | rfl | rfl | rfl | rfl | rfl | rfl | rfl | rfl | rfl | rfl | h
  case inr.inr.inr.inr.inr.inr.inr.inr.inr.inr.inr.inr =>
    have HW := Lib.hid (widN_none c h)
    obtain ⟨h0, h1, h2, h3, h4, h5, h6, h7, h8, h9, h10, h11⟩ := h
    go_enter Try.func95, Try.ntmps95
    go_wp2
    refine bodyPost_ret (v := .agg #[.int .i64 0, .bool false]) (by simp [results, Try.results95, go_sem]) rfl ⟨by rw [HW.out.1, HW.out.2]; rfl, ?_⟩
    exact (Below.refl _ _).alloc (Nat.le_refl _) _
  all_goals
    go_enter Try.func95, Try.ntmps95
    go_wp2
    first
    | refine bodyPost_ret (v := .agg #[.int .i64 4, .bool true]) (by simp [results, Try.results95, go_sem]) rfl ⟨rfl, ?_⟩
    | refine bodyPost_ret (v := .agg #[.int .i64 2, .bool true]) (by simp [results, Try.results95, go_sem]) rfl ⟨rfl, ?_⟩
    | refine bodyPost_ret (v := .agg #[.int .i64 2, .bool false]) (by simp [results, Try.results95, go_sem]) rfl ⟨rfl, ?_⟩
    | refine bodyPost_ret (v := .agg #[.int .i64 1, .bool false]) (by simp [results, Try.results95, go_sem]) rfl ⟨rfl, ?_⟩
    exact (Below.refl _ _).alloc (Nat.le_refl _) _

theorem run_size (m : Int) (b : Bool) (w : World) : (Instr.field 145 (.agg #[.int .i64 m, .bool b]) 0).run Try.prog w = .ok (.int .i64 m) w := by kernel_rfl

theorem i_size (c : Int) (w : World) : Calls Try.prog 79 #[.int .i64 c] w fun e w' => e = .returned (.int .i64 (sizZ c)) ∧ Below w.heap.size w w' := by
  have hw := widN_le c
  obtain ⟨m, hm⟩ : ∃ m : Nat, widN c = m := ⟨_, rfl⟩
  have S := Lib.hid (fun W => i_shape c W)
  rw [hm] at S hw
  have C := Lib.hid (fun W => i_code c W)
  have HR : Hid (sizZ c = if codeB c = true then 1 + (m : Int) else 0) := Lib.hid (by unfold sizZ; rw [hm])
  clear hm
  obtain ⟨b, hb⟩ : ∃ b, codeB c = b := ⟨_, rfl⟩
  rw [hb] at C HR
  clear hb
  have F := fun (W : World) => run_size (m : Int) (sgnB c) W
  cases b
  · clear F
    go_enter Try.func79, Try.ntmps79
    go_wp2_with (first | (go_at_call 94; refine (C.out _).mono ?_; rintro e w' ⟨rfl, rfl⟩))
    go_ret
    exact ⟨ret_i7 HR.out.symm, Below.refl _ _⟩
  · go_enter Try.func79, Try.ntmps79
    go_wp2_with (first | (go_at_call 94; refine (C.out _).mono ?_; rintro e w' ⟨rfl, rfl⟩) | (go_at_call 95; refine (S.out _).mono ?_; rintro e w1 ⟨rfl, b1⟩))
    go_ret
    exact ⟨ret_i7 HR.out.symm, b1⟩
end Go.Proofs.Ytakgjlpgcepnkaa
