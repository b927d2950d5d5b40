/- The model's ExprOk. -/
import Derived.Test.YtbdplcbmfcfigaaGreatDoorEndSpec
namespace Go.Proofs.YtbdplcbmfcfigaaGreatDoor
open Go.RowKit Go.Lib

theorem exprB_nil : exprB [] = false := rfl
theorem exprB_long (l : List TokL) (h : 20 < l.length) : exprB l = false := by unfold exprB; rw [decide_eq_false (by omega : ¬ l.length ≤ 20)]; rfl
theorem exprB_mid (l : List TokL) (h : l.length ≤ 20) : exprB l = (endZ l 0 == (l.length : Int)) := by
  unfold exprB; rw [decide_eq_true h, Bool.true_and]; rw [Bool.eq_iff_iff]; simp

set_option maxHeartbeats 400000 in
theorem s_exprok (a : Option Addr) (cap : Nat) (l : List TokL) (w : World) (hl : l.length ≤ 1048576) (hr : ReadT w a l) (hn : NamesT l) :
    Calls Tryz.prog 69 #[.slice a l.length cap] w fun e w' => e = .returned (.bool (exprB l)) ∧ Below w.heap.size w w' := by
  by_cases h0 : l.length = 0
  · obtain rfl := List.length_eq_zero_iff.1 h0
    clear hl hr hn h0
    go_enter Tryz.func69, Tryz.ntmps69
    go_wp2
    go_ret
    exact ⟨ret_b exprB_nil.symm, Below.refl _ _⟩
  have hpos : 0 < l.length := by omega
  clear h0
  by_cases hb : 20 < l.length
  · have HV := Lib.hid (exprB_long l hb)
    have hd : decide (l.length ≤ 20) = false := by simp; omega
    clear hr hn
    go_enter Tryz.func69, Tryz.ntmps69
    go_wp2
    go_ret
    exact ⟨ret_b HV.out.symm, Below.refl _ _⟩
  have hb' : l.length ≤ 20 := by omega
  have HV := Lib.hid (exprB_mid l hb')
  have S := Lib.hid (fun W h => s_end a cap l 0 W hl h hn (by omega))
  have HR := Lib.hid hr
  clear hr hn hb
  obtain ⟨r, hre⟩ : ∃ r, endZ l 0 = r := ⟨_, rfl⟩
  rw [hre] at S HV
  clear hre
  go_enter Tryz.func69, Tryz.ntmps69
  go_wp2_with fail
  refine (S.out _ HR.out).mono ?_
  rintro e w1 ⟨rfl, b1⟩
  have HB := Lib.hid b1
  clear b1
  go_wp2
  all_goals go_ret
  all_goals exact ⟨ret_b (by rw [HV.out]), HB.out⟩
end Go.Proofs.YtbdplcbmfcfigaaGreatDoor
