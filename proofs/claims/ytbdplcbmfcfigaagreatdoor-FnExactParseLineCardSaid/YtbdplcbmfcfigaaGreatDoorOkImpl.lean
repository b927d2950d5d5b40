/- The program's ExprOk. -/
import Derived.Test.YtbdplcbmfcfigaaGreatDoorEndImpl
namespace Go.Proofs.YtbdplcbmfcfigaaGreatDoor
open Go.RowKit Go.Lib

theorem exprI_nil : exprB [] = false := rfl
theorem exprI_long (l : List TokL) (h : 20 < l.length) : exprB l = false := by unfold exprB; rw [decide_eq_false (by omega : ¬ l.length ≤ 20)]; rfl
theorem exprI_mid (l : List TokL) (h : l.length ≤ 20) : exprB l = (endZ l 0 == (l.length : Int)) := by
  unfold exprB; rw [decide_eq_true h, Bool.true_and]; rw [Bool.eq_iff_iff]; simp

set_option maxHeartbeats 400000 in
theorem i_exprok (a : Option Addr) (cap : Nat) (l : List TokL) (w : World) (hl : l.length ≤ 1048576) (hr : ReadT w a l) (hn : NamesI l) :
    Calls Tryz.prog 61 #[.slice a l.length cap] w fun e w' => e = .returned (.bool (exprB l)) ∧ Below w.heap.size w w' := by
  by_cases hb : 20 < l.length
  · have HV := Lib.hid (exprI_long l hb)
    have hd : decide (l.length ≤ 20) = false := by simp; omega
    clear hr hn
    go_enter Tryz.func61, Tryz.ntmps61
    go_wp2
    go_ret
    exact ⟨ret_b HV.out.symm, Below.refl _ _⟩
  have hb' : l.length ≤ 20 := by omega
  have HV := Lib.hid (exprI_mid l hb')
  have S := Lib.hid (fun W h => i_end a cap l 0 W hl h hn (by omega))
  have HR := Lib.hid hr
  clear hr hn hb
  obtain ⟨r, hre⟩ : ∃ r, endZ l 0 = r := ⟨_, rfl⟩
  rw [hre] at S HV
  clear hre
  go_enter Tryz.func61, Tryz.ntmps61
  go_wp2_with fail
  refine (S.out _ HR.out).mono ?_
  rintro e w1 ⟨rfl, b1⟩
  have HB := Lib.hid b1
  clear b1
  go_wp2
  all_goals go_ret
  all_goals exact ⟨ret_b (by rw [HV.out]), HB.out⟩
end Go.Proofs.YtbdplcbmfcfigaaGreatDoor
