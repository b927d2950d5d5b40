/- The program's OpOk. -/
import Derived.Test.YtcflojdkaddemaaOpBytesB
import Derived.Test.YtcflojdkaddemaaOpFit
import Derived.Test.YtcflojdkaddemaaOpImplA
import Derived.Test.YtcflojdkaddemaaPlainB
import Derived.Deep.RegionHeld3
import Derived.Deep.QuietTactic
import Derived.BigQuiet
namespace Go.Proofs.Ytcflojdkaddemaa
open Go.RowKit Go.Lib

theorem below_drw7 {B : Nat} {w w' : World} (h : Below B w w') (k : Nat) : Below B w (w'.drewN k) := ⟨h.os, h.tape, h.output, h.size, h.block⟩
theorem wid_one (c : Int) (h : sgnB c = true) : 1 ≤ widN c := by rcases sgn_wid c h with h | h <;> omega

set_option maxHeartbeats 2000000 in
theorem i_ok7 (c a : Int) (w : World) (ha : (Lit.int .i64 a).wf = true) :
    Calls Try.prog 13 #[.agg #[.int .i64 c, .int .i64 a]] w fun e w' => e = .returned (.bool (insB ⟨c, a⟩)) ∧ Below w.heap.size w w' := by
  have hb0 : -9223372036854775808 ≤ a ∧ a ≤ 9223372036854775807 := bounds_i64 ha
  have C := Lib.hid (fun W => i_code c W)
  have BY := Lib.hid (fun W => i_bytes a W ha)
  obtain ⟨x0, x1, x2, x3, x4, x5, x6, x7, hx⟩ := arr8 (argB a 8) (argB_length a 8)
  rw [hx] at BY
  by_cases hc : codeB c = true
  · have SH := Lib.hid (fun W => i_shape c W)
    have WI := Lib.hid (fun W => i_wide (widN c) (sgnB c) (argB a 8) W (argB_length a 8) (Nat.le_trans (widN_le c) (by decide)) (wid_one c))
    obtain ⟨y0, y1, y2, y3, y4, y5, y6, y7, hy⟩ := arr8 (widL (widN c) (sgnB c) (argB a 8)) (widL_length _ _ _ (argB_length a 8) (Nat.le_trans (widN_le c) (by decide)))
    have EQ := Lib.hid (fun W => run_eql_arr (widL (widN c) (sgnB c) (argB a 8)) (argB a 8) (widL_length _ _ _ (argB_length a 8) (Nat.le_trans (widN_le c) (by decide))) (argB_length a 8) W)
    have HR : Hid (insB ⟨c, a⟩ = decide (widL (widN c) (sgnB c) (argB a 8) = argB a 8)) := Lib.hid (by
      rw [insB_eq, hc, Bool.true_and, ← Bool.decide_and, decide_eq_decide]
      exact (fit_iff c a hb0.1 hb0.2).symm)
    rw [hx, hy] at WI EQ
    obtain ⟨r, hr⟩ : ∃ r, decide (widL (widN c) (sgnB c) (argB a 8) = argB a 8) = r := ⟨_, rfl⟩
    rw [hr] at EQ HR
    obtain ⟨m, hm⟩ : ∃ m : Nat, widN c = m := ⟨_, rfl⟩
    obtain ⟨sg, hsg⟩ : ∃ sg, sgnB c = sg := ⟨_, rfl⟩
    rw [hm, hsg] at SH WI
    rw [hc] at C
    clear hb0 hc hr hm hsg hx hy ha
    have HB0 := Lib.hid (fun (o : Obj) => ((Below.refl w.heap.size w).alloc (Nat.le_refl _) o))
    go_enter Try.func13, Try.ntmps13
    go_wp2_with fail
    refine (BY.out _).mono ?_
    rintro e w1 ⟨rfl, b1⟩
    have HB1 := Lib.hid ((HB0.out _).trans (b1.mono (by simp)))
    have z1 : w.heap.size < w1.heap.size := by have := b1.size; simp at this; omega
    have c0 := b1.cell (p := ⟨w.heap.size, 0, none⟩) (by simp)
    go_wp2_with fail
    obtain ⟨W1, hW1⟩ : ∃ W, w1.alloc (.cells #[.int .u8 x0, .int .u8 x1, .int .u8 x2, .int .u8 x3, .int .u8 x4, .int .u8 x5, .int .u8 x6, .int .u8 x7] 71) = W := ⟨_, rfl⟩
    have HA : Hid (Below w1.heap.size w1 W1) := Lib.hid (hW1 ▸ (Below.refl _ _).alloc (Nat.le_refl _) _)
    have HP : Hid (W1.heap[w1.heap.size]? = some (.cells #[.int .u8 x0, .int .u8 x1, .int .u8 x2, .int .u8 x3, .int .u8 x4, .int .u8 x5, .int .u8 x6, .int .u8 x7] 71 (0, 0))) := Lib.hid (hW1 ▸ heap_alloc_new w1 _)
    have HC0 : Hid (W1.cell? ⟨w.heap.size, 0, none⟩ = some (.int .i64 c)) := Lib.hid ((HA.out.cell (p := ⟨w.heap.size, 0, none⟩) z1).trans (c0.trans ((blk (heap_alloc_new w _)).1 0 _ rfl)))
    have z2 : w1.heap.size < W1.heap.size := (blk HP.out).2.2
    have KEEP : Hid (∀ W, Below W1.heap.size W1 W → W.cell? ⟨w.heap.size, 0, none⟩ = some (.int .i64 c) ∧ W.cell? ⟨w1.heap.size, 0, none⟩ = some (.int .u8 x0) ∧ W.cell? ⟨w1.heap.size, 1, none⟩ = some (.int .u8 x1) ∧ W.cell? ⟨w1.heap.size, 2, none⟩ = some (.int .u8 x2) ∧ W.cell? ⟨w1.heap.size, 3, none⟩ = some (.int .u8 x3) ∧ W.cell? ⟨w1.heap.size, 4, none⟩ = some (.int .u8 x4) ∧ W.cell? ⟨w1.heap.size, 5, none⟩ = some (.int .u8 x5) ∧ W.cell? ⟨w1.heap.size, 6, none⟩ = some (.int .u8 x6) ∧ W.cell? ⟨w1.heap.size, 7, none⟩ = some (.int .u8 x7)) := Lib.hid (fun W hb => by
      have q := (blk ((hb.block _ z2).trans HP.out)).1
      exact ⟨(hb.cell (p := ⟨w.heap.size, 0, none⟩) (show w.heap.size < W1.heap.size by omega)).trans HC0.out, q 0 _ rfl, q 1 _ rfl, q 2 _ rfl, q 3 _ rfl, q 4 _ rfl, q 5 _ rfl, q 6 _ rfl, q 7 _ rfl⟩)
    have HBW : Hid (Below w.heap.size w W1) := Lib.hid (HB1.out.trans (HA.out.mono (by omega)))
    have hbin := fun W => EQ.out W
    rw [hW1]
    clear hW1 c0 b1 HB0
    go_region_held3 (fun w' => w'.cell? ⟨w.heap.size, 0, none⟩ = some (.int .i64 c) ∧ w'.cell? ⟨w1.heap.size, 0, none⟩ = some (.int .u8 x0) ∧ w'.cell? ⟨w1.heap.size, 1, none⟩ = some (.int .u8 x1) ∧ w'.cell? ⟨w1.heap.size, 2, none⟩ = some (.int .u8 x2) ∧ w'.cell? ⟨w1.heap.size, 3, none⟩ = some (.int .u8 x3) ∧ w'.cell? ⟨w1.heap.size, 4, none⟩ = some (.int .u8 x4) ∧ w'.cell? ⟨w1.heap.size, 5, none⟩ = some (.int .u8 x5) ∧ w'.cell? ⟨w1.heap.size, 6, none⟩ = some (.int .u8 x6) ∧ w'.cell? ⟨w1.heap.size, 7, none⟩ = some (.int .u8 x7)) (first | exact KEEP.out _ (Below.refl W1.heap.size W1).drew | exact KEEP.out _ (undrew b2) | exact KEEP.out _ ((undrew b2).trans (b3.mono (undrew b2).size))) (first
      | (go_at_call 39; (with_reducible refine (C.out _).mono ?_); rintro e w' ⟨rfl, rfl⟩)
      | (go_at_call 38; (with_reducible refine (SH.out _).mono ?_); rintro e w2 ⟨rfl, b2⟩)
      | (go_at_call 40; (with_reducible refine (WI.out _).mono ?_); rintro e w3 ⟨rfl, b3⟩))
    all_goals
      have HB3 : Hid (Below w.heap.size w w3) := Lib.hid (HBW.out.trans (((undrew b2).trans (b3.mono (undrew b2).size)).mono (by omega)))
      clear b2 b3
      go_wp2
      go_ret
      exact ⟨ret_b7 HR.out.symm, HB3.out⟩
  · have HR : Hid (insB ⟨c, a⟩ = false) := Lib.hid (by rw [insB_eq, Bool.eq_false_iff.2 hc, Bool.false_and])
    rw [Bool.eq_false_iff.2 hc] at C
    clear hb0 hc hx ha
    have HB0 := Lib.hid (fun (o : Obj) => ((Below.refl w.heap.size w).alloc (Nat.le_refl _) o))
    go_enter Try.func13, Try.ntmps13
    go_wp2_with fail
    refine (BY.out _).mono ?_
    rintro e w1 ⟨rfl, b1⟩
    have HB1 := Lib.hid ((HB0.out _).trans (b1.mono (by simp)))
    have z1 : w.heap.size < w1.heap.size := by have := b1.size; simp at this; omega
    have c0 : w1.cell? ⟨w.heap.size, 0, none⟩ = some (.int .i64 c) := (b1.cell (p := ⟨w.heap.size, 0, none⟩) (by simp)).trans ((blk (heap_alloc_new w _)).1 0 _ rfl)
    clear b1 HB0
    go_wp2_with fail
    go_quiet ((go_at_call 39; exact Calls.quiet_of_same ((C.out _).mono (fun e w' h => ⟨h.1, h.2.symm⟩))))
    all_goals
      go_wp2
      go_ret
      exact ⟨ret_b7 HR.out.symm, below_drw7 (HB1.out.alloc (by omega) _) _⟩
end Go.Proofs.Ytcflojdkaddemaa
