/- What the model's functions that draw instructions return. -/
import Derived.Test.YtcflojdkaddemaaDrawA
import Derived.Test.YtcflojdkaddemaaOpDis
import Derived.Deep.Cut
namespace Go.Proofs.Ytcflojdkaddemaa
open Go.RowKit Go.Lib

/-- An instruction was drawn: it is valid. -/
def DrawOp (T : TypeId) (c : Nat) (a : Option Addr) (len cap : Nat) (z : List Int) (w : World) (e : Ending) (w' : World) : Prop :=
  ∃ x : OpL, insB x = true ∧ e = .returned (.agg #[.int .i64 x.code, .int .i64 x.arg]) ∧ CurAt T w' c a len cap z ∧ w.grownBy w' (some c)
theorem ins_drawn (c x : Int) (h0 : 0 ≤ c) (h1 : c ≤ 17) (hl : loZ c ≤ x) (hh : x ≤ hiZ c) : insB ⟨c, x⟩ = true := by
  rw [insB_eq, decide_eq_true hl, decide_eq_true hh]
  unfold codeB
  rw [decide_eq_true h0, decide_eq_true h1]
  rfl

set_option maxHeartbeats 2000000 in
theorem d_op (c : Nat) (a : Option Addr) (len cap : Nat) (z : List Int) (w : World) (H : CurAt 104 w c a len cap z) :
    Calls Try.prog 36 #[.pointer (some ⟨c, 0, none⟩)] w (DrawOp 104 c a len cap z w) := by
  have hc := H.lt
  have K0 := Lib.hid (H.alloc (.cells #[.int .i64 0, .int .i64 0] 28))
  have G0 := Lib.hid (grown_alloc' w (.cells #[.int .i64 0, .int .i64 0] 28) (some c))
  have R0 := Lib.hid (heap_alloc_new w (.cells #[.int .i64 0, .int .i64 0] 28))
  clear H
  go_enter Try.func36, Try.ntmps36
  go_wp2_with fail
  refine (d_below c a len cap z 18 _ K0.out (by omega) (by omega)).mono ?_
  rintro e w1 ⟨x, x0, x1, rfl, H1, g1⟩
  have G1 := Lib.hid (World.grownBy.trans G0.out g1)
  have R1 : Hid (w1.heap[w.heap.size]? = some (.cells #[.int .i64 0, .int .i64 0] 28 (0, 0))) := Lib.hid ((g1.block w.heap.size (by simp) (by intro e; injection e; omega)).trans R0.out)
  have z1 : w.heap.size < w1.heap.size := (blk R1.out).2.2
  have K1 := Lib.hid (H1.alloc (.cells #[.int .i64 x, .int .i64 0] 28))
  have G2 := Lib.hid (grown_alloc G1.out (.cells #[.int .i64 x, .int .i64 0] 28))
  have R2 : Hid ((w1.alloc (.cells #[.int .i64 x, .int .i64 0] 28)).heap[w.heap.size]? = some (.cells #[.int .i64 0, .int .i64 0] 28 (0, 0))) := Lib.hid ((Below.heap_alloc w1 _ _ z1).trans R1.out)
  have P2 := Lib.hid (heap_alloc_new w1 (.cells #[.int .i64 x, .int .i64 0] 28))
  have hx1 : x ≤ 17 := by omega
  have FC := Lib.hid (fit_cases x)
  have WD := Lib.hid (fun W => s_wid x W)
  have INS := Lib.hid (fun y => ins_drawn x y x0 hx1)
  clear H1 g1 x1
  go_wp2_with fail
  obtain ⟨W2, hW2⟩ : ∃ W, w1.alloc (.cells #[.int .i64 x, .int .i64 0] 28) = W := ⟨_, rfl⟩
  rw [hW2] at K1 G2 R2 P2
  try rw [hW2]
  clear hW2
  rcases FC.out with ⟨h1, h2, h3, h4⟩ | ⟨h1, h2, h3, h4⟩ | ⟨h1, h2, h3, h4⟩ | ⟨h1, h2, h3, h4⟩ | ⟨h1, h2, h3, h4⟩
  · rw [h1, h2] at WD
    rw [h3, h4] at INS
    clear h1 h2 h3 h4 FC
    refine (WD.out _).mono ?_
    rintro e w' ⟨rfl, hw'⟩
    obtain rfl := hw'
    have e0 : W2.cell? ⟨w1.heap.size, 0, none⟩ = some (.int .i64 x) := (blk P2.out).1 0 _ rfl
    have e1 : W2.cell? ⟨w1.heap.size, 1, none⟩ = some (.int .i64 (0)) := (blk P2.out).1 1 _ rfl
    have g0 : W2.cell? ⟨w.heap.size, 0, none⟩ = some (.int .i64 0) := (blk R2.out).1 0 _ rfl
    have g1 : W2.cell? ⟨w.heap.size, 1, none⟩ = some (.int .i64 0) := (blk R2.out).1 1 _ rfl
    have p0 : W2.frozen? ⟨w.heap.size, 0, none⟩ = false := (blk R2.out).2.1 0
    have p1 : W2.frozen? ⟨w.heap.size, 1, none⟩ = false := (blk R2.out).2.1 1
    go_wp2_with fail
    refine bodyPost_ret (v := .agg #[.int .i64 x, .int .i64 (0)]) (by simp [results, Try.results36, go_sem, g0, g1]) rfl ?_
    refine ⟨⟨x, 0⟩, INS.out 0 (by omega) (by omega), rfl, ?_, ?_⟩
    · exact (K1.out.kept (grown_setCell _ w.heap.size 0 _) (fun k e => by cases e; exact hc)).kept (grown_setCell _ w.heap.size 1 _) (fun k e => by cases e; exact hc)
    · exact grown_new (grown_new G2.out (grown_setCell _ w.heap.size 0 _) (fun g e => by cases e; exact Nat.le_refl _)) (grown_setCell _ w.heap.size 1 _) (fun g e => by cases e; exact Nat.le_refl _)
  · rw [h1, h2] at WD
    rw [h3, h4] at INS
    clear h1 h2 h3 h4 FC
    refine (WD.out _).mono ?_
    rintro e w' ⟨rfl, hw'⟩
    obtain rfl := hw'
    go_wp2_with fail
    refine (d_below c a len cap z 200 _ K1.out (by omega) (by omega)).mono ?_
    rintro e w3 ⟨y, y0, y1, rfl, H3, g3⟩
    have K3 := Lib.hid H3
    have G3 := Lib.hid (World.grownBy.trans G2.out g3)
    have P3 : Hid (w3.heap[w1.heap.size]? = some (.cells #[.int .i64 x, .int .i64 0] 28 (0, 0))) := Lib.hid ((g3.block w1.heap.size (blk P2.out).2.2 (by intro e; injection e; omega)).trans P2.out)
    have R3 : Hid (w3.heap[w.heap.size]? = some (.cells #[.int .i64 0, .int .i64 0] 28 (0, 0))) := Lib.hid ((g3.block w.heap.size (blk R2.out).2.2 (by intro e; injection e; omega)).trans R2.out)
    have d1 : w3.cell? ⟨w1.heap.size, 1, none⟩ = some (.int .i64 0) := (blk P3.out).1 1 _ rfl
    have f1 : w3.frozen? ⟨w1.heap.size, 1, none⟩ = false := (blk P3.out).2.1 1
    have K4 := Lib.hid (K3.out.kept (grown_setCell w3 w1.heap.size 1 (.int .i64 (y))) (fun k e => by cases e; omega))
    have G4 := Lib.hid (grown_new G3.out (grown_setCell w3 w1.heap.size 1 (.int .i64 (y))) (fun g e => by cases e; omega))
    have P4 : Hid ((w3.setCell ⟨w1.heap.size, 1, none⟩ (.int .i64 (y))).heap[w1.heap.size]? = some (.cells #[.int .i64 x, .int .i64 (y)] 28 (0, 0))) := Lib.hid (heap_setCell_at P3.out _)
    have R4 : Hid ((w3.setCell ⟨w1.heap.size, 1, none⟩ (.int .i64 (y))).heap[w.heap.size]? = some (.cells #[.int .i64 0, .int .i64 0] 28 (0, 0))) := Lib.hid ((set_other (by omega)).trans R3.out)
    clear H3 g3
    obtain ⟨W4, hW4⟩ : ∃ W, w3.setCell ⟨w1.heap.size, 1, none⟩ (.int .i64 (y)) = W := ⟨_, rfl⟩
    rw [hW4] at K4 G4 P4 R4
    have HW4 := Lib.hid hW4
    clear hW4
    go_upto_region 5 with fail
    rw [HW4.out]
    clear d1 f1 HW4
    have e0 : W4.cell? ⟨w1.heap.size, 0, none⟩ = some (.int .i64 x) := (blk P4.out).1 0 _ rfl
    have e1 : W4.cell? ⟨w1.heap.size, 1, none⟩ = some (.int .i64 (y)) := (blk P4.out).1 1 _ rfl
    have g0 : W4.cell? ⟨w.heap.size, 0, none⟩ = some (.int .i64 0) := (blk R4.out).1 0 _ rfl
    have g1 : W4.cell? ⟨w.heap.size, 1, none⟩ = some (.int .i64 0) := (blk R4.out).1 1 _ rfl
    have p0 : W4.frozen? ⟨w.heap.size, 0, none⟩ = false := (blk R4.out).2.1 0
    have p1 : W4.frozen? ⟨w.heap.size, 1, none⟩ = false := (blk R4.out).2.1 1
    go_wp2_with fail
    refine bodyPost_ret (v := .agg #[.int .i64 x, .int .i64 (y)]) (by simp [results, Try.results36, go_sem, g0, g1]) rfl ?_
    refine ⟨⟨x, y⟩, INS.out y (by omega) (by omega), rfl, ?_, ?_⟩
    · exact (K4.out.kept (grown_setCell _ w.heap.size 0 _) (fun k e => by cases e; exact hc)).kept (grown_setCell _ w.heap.size 1 _) (fun k e => by cases e; exact hc)
    · exact grown_new (grown_new G4.out (grown_setCell _ w.heap.size 0 _) (fun g e => by cases e; exact Nat.le_refl _)) (grown_setCell _ w.heap.size 1 _) (fun g e => by cases e; exact Nat.le_refl _)
  · rw [h1, h2] at WD
    rw [h3, h4] at INS
    clear h1 h2 h3 h4 FC
    refine (WD.out _).mono ?_
    rintro e w' ⟨rfl, hw'⟩
    obtain rfl := hw'
    go_wp2_with fail
    refine (d_below c a len cap z 200 _ K1.out (by omega) (by omega)).mono ?_
    rintro e w3 ⟨y, y0, y1, rfl, H3, g3⟩
    have K3 := Lib.hid H3
    have G3 := Lib.hid (World.grownBy.trans G2.out g3)
    have P3 : Hid (w3.heap[w1.heap.size]? = some (.cells #[.int .i64 x, .int .i64 0] 28 (0, 0))) := Lib.hid ((g3.block w1.heap.size (blk P2.out).2.2 (by intro e; injection e; omega)).trans P2.out)
    have R3 : Hid (w3.heap[w.heap.size]? = some (.cells #[.int .i64 0, .int .i64 0] 28 (0, 0))) := Lib.hid ((g3.block w.heap.size (blk R2.out).2.2 (by intro e; injection e; omega)).trans R2.out)
    have d1 : w3.cell? ⟨w1.heap.size, 1, none⟩ = some (.int .i64 0) := (blk P3.out).1 1 _ rfl
    have f1 : w3.frozen? ⟨w1.heap.size, 1, none⟩ = false := (blk P3.out).2.1 1
    have K4 := Lib.hid (K3.out.kept (grown_setCell w3 w1.heap.size 1 (.int .i64 (y))) (fun k e => by cases e; omega))
    have G4 := Lib.hid (grown_new G3.out (grown_setCell w3 w1.heap.size 1 (.int .i64 (y))) (fun g e => by cases e; omega))
    have P4 : Hid ((w3.setCell ⟨w1.heap.size, 1, none⟩ (.int .i64 (y))).heap[w1.heap.size]? = some (.cells #[.int .i64 x, .int .i64 (y)] 28 (0, 0))) := Lib.hid (heap_setCell_at P3.out _)
    have R4 : Hid ((w3.setCell ⟨w1.heap.size, 1, none⟩ (.int .i64 (y))).heap[w.heap.size]? = some (.cells #[.int .i64 0, .int .i64 0] 28 (0, 0))) := Lib.hid ((set_other (by omega)).trans R3.out)
    clear H3 g3
    obtain ⟨W4, hW4⟩ : ∃ W, w3.setCell ⟨w1.heap.size, 1, none⟩ (.int .i64 (y)) = W := ⟨_, rfl⟩
    rw [hW4] at K4 G4 P4 R4
    have HW4 := Lib.hid hW4
    clear hW4
    go_upto_region 5 with fail
    rw [HW4.out]
    clear d1 f1 HW4
    have e0 : W4.cell? ⟨w1.heap.size, 0, none⟩ = some (.int .i64 x) := (blk P4.out).1 0 _ rfl
    have e1 : W4.cell? ⟨w1.heap.size, 1, none⟩ = some (.int .i64 (y)) := (blk P4.out).1 1 _ rfl
    have g0 : W4.cell? ⟨w.heap.size, 0, none⟩ = some (.int .i64 0) := (blk R4.out).1 0 _ rfl
    have g1 : W4.cell? ⟨w.heap.size, 1, none⟩ = some (.int .i64 0) := (blk R4.out).1 1 _ rfl
    have p0 : W4.frozen? ⟨w.heap.size, 0, none⟩ = false := (blk R4.out).2.1 0
    have p1 : W4.frozen? ⟨w.heap.size, 1, none⟩ = false := (blk R4.out).2.1 1
    go_wp2_with fail
    refine bodyPost_ret (v := .agg #[.int .i64 x, .int .i64 (y)]) (by simp [results, Try.results36, go_sem, g0, g1]) rfl ?_
    refine ⟨⟨x, y⟩, INS.out y (by omega) (by omega), rfl, ?_, ?_⟩
    · exact (K4.out.kept (grown_setCell _ w.heap.size 0 _) (fun k e => by cases e; exact hc)).kept (grown_setCell _ w.heap.size 1 _) (fun k e => by cases e; exact hc)
    · exact grown_new (grown_new G4.out (grown_setCell _ w.heap.size 0 _) (fun g e => by cases e; exact Nat.le_refl _)) (grown_setCell _ w.heap.size 1 _) (fun g e => by cases e; exact Nat.le_refl _)
  · rw [h1, h2] at WD
    rw [h3, h4] at INS
    clear h1 h2 h3 h4 FC
    refine (WD.out _).mono ?_
    rintro e w' ⟨rfl, hw'⟩
    obtain rfl := hw'
    go_wp2_with fail
    refine (d_below c a len cap z 200 _ K1.out (by omega) (by omega)).mono ?_
    rintro e w3 ⟨y, y0, y1, rfl, H3, g3⟩
    have K3 := Lib.hid H3
    have G3 := Lib.hid (World.grownBy.trans G2.out g3)
    have P3 : Hid (w3.heap[w1.heap.size]? = some (.cells #[.int .i64 x, .int .i64 0] 28 (0, 0))) := Lib.hid ((g3.block w1.heap.size (blk P2.out).2.2 (by intro e; injection e; omega)).trans P2.out)
    have R3 : Hid (w3.heap[w.heap.size]? = some (.cells #[.int .i64 0, .int .i64 0] 28 (0, 0))) := Lib.hid ((g3.block w.heap.size (blk R2.out).2.2 (by intro e; injection e; omega)).trans R2.out)
    have d1 : w3.cell? ⟨w1.heap.size, 1, none⟩ = some (.int .i64 0) := (blk P3.out).1 1 _ rfl
    have f1 : w3.frozen? ⟨w1.heap.size, 1, none⟩ = false := (blk P3.out).2.1 1
    have K4 := Lib.hid (K3.out.kept (grown_setCell w3 w1.heap.size 1 (.int .i64 (y))) (fun k e => by cases e; omega))
    have G4 := Lib.hid (grown_new G3.out (grown_setCell w3 w1.heap.size 1 (.int .i64 (y))) (fun g e => by cases e; omega))
    have P4 : Hid ((w3.setCell ⟨w1.heap.size, 1, none⟩ (.int .i64 (y))).heap[w1.heap.size]? = some (.cells #[.int .i64 x, .int .i64 (y)] 28 (0, 0))) := Lib.hid (heap_setCell_at P3.out _)
    have R4 : Hid ((w3.setCell ⟨w1.heap.size, 1, none⟩ (.int .i64 (y))).heap[w.heap.size]? = some (.cells #[.int .i64 0, .int .i64 0] 28 (0, 0))) := Lib.hid ((set_other (by omega)).trans R3.out)
    clear H3 g3
    obtain ⟨W4, hW4⟩ : ∃ W, w3.setCell ⟨w1.heap.size, 1, none⟩ (.int .i64 (y)) = W := ⟨_, rfl⟩
    rw [hW4] at K4 G4 P4 R4
    have HW4 := Lib.hid hW4
    clear hW4
    go_upto_region 5 with fail
    rw [HW4.out]
    clear d1 f1 HW4
    have d1 : W4.cell? ⟨w1.heap.size, 1, none⟩ = some (.int .i64 y) := (blk P4.out).1 1 _ rfl
    have f1 : W4.frozen? ⟨w1.heap.size, 1, none⟩ = false := (blk P4.out).2.1 1
    have K5 := Lib.hid (K4.out.kept (grown_setCell W4 w1.heap.size 1 (.int .i64 (y - 100))) (fun k e => by cases e; omega))
    have G5 := Lib.hid (grown_new G4.out (grown_setCell W4 w1.heap.size 1 (.int .i64 (y - 100))) (fun g e => by cases e; omega))
    have P5 : Hid ((W4.setCell ⟨w1.heap.size, 1, none⟩ (.int .i64 (y - 100))).heap[w1.heap.size]? = some (.cells #[.int .i64 x, .int .i64 (y - 100)] 28 (0, 0))) := Lib.hid (heap_setCell_at P4.out _)
    have R5 : Hid ((W4.setCell ⟨w1.heap.size, 1, none⟩ (.int .i64 (y - 100))).heap[w.heap.size]? = some (.cells #[.int .i64 0, .int .i64 0] 28 (0, 0))) := Lib.hid ((set_other (by omega)).trans R4.out)
    obtain ⟨W5, hW5⟩ : ∃ W, W4.setCell ⟨w1.heap.size, 1, none⟩ (.int .i64 (y - 100)) = W := ⟨_, rfl⟩
    rw [hW5] at K5 G5 P5 R5
    have HW5 := Lib.hid hW5
    clear hW5
    go_upto_region 7 with fail
    rw [HW5.out]
    clear d1 f1 HW5
    have e0 : W5.cell? ⟨w1.heap.size, 0, none⟩ = some (.int .i64 x) := (blk P5.out).1 0 _ rfl
    have e1 : W5.cell? ⟨w1.heap.size, 1, none⟩ = some (.int .i64 (y - 100)) := (blk P5.out).1 1 _ rfl
    have g0 : W5.cell? ⟨w.heap.size, 0, none⟩ = some (.int .i64 0) := (blk R5.out).1 0 _ rfl
    have g1 : W5.cell? ⟨w.heap.size, 1, none⟩ = some (.int .i64 0) := (blk R5.out).1 1 _ rfl
    have p0 : W5.frozen? ⟨w.heap.size, 0, none⟩ = false := (blk R5.out).2.1 0
    have p1 : W5.frozen? ⟨w.heap.size, 1, none⟩ = false := (blk R5.out).2.1 1
    go_wp2_with fail
    refine bodyPost_ret (v := .agg #[.int .i64 x, .int .i64 (y - 100)]) (by simp [results, Try.results36, go_sem, g0, g1]) rfl ?_
    refine ⟨⟨x, y - 100⟩, INS.out (y - 100) (by omega) (by omega), rfl, ?_, ?_⟩
    · exact (K5.out.kept (grown_setCell _ w.heap.size 0 _) (fun k e => by cases e; exact hc)).kept (grown_setCell _ w.heap.size 1 _) (fun k e => by cases e; exact hc)
    · exact grown_new (grown_new G5.out (grown_setCell _ w.heap.size 0 _) (fun g e => by cases e; exact Nat.le_refl _)) (grown_setCell _ w.heap.size 1 _) (fun g e => by cases e; exact Nat.le_refl _)
  · rw [h1, h2] at WD
    rw [h3, h4] at INS
    clear h1 h2 h3 h4 FC
    refine (WD.out _).mono ?_
    rintro e w' ⟨rfl, hw'⟩
    obtain rfl := hw'
    go_wp2_with fail
    refine (d_below c a len cap z 200 _ K1.out (by omega) (by omega)).mono ?_
    rintro e w3 ⟨y, y0, y1, rfl, H3, g3⟩
    have K3 := Lib.hid H3
    have G3 := Lib.hid (World.grownBy.trans G2.out g3)
    have P3 : Hid (w3.heap[w1.heap.size]? = some (.cells #[.int .i64 x, .int .i64 0] 28 (0, 0))) := Lib.hid ((g3.block w1.heap.size (blk P2.out).2.2 (by intro e; injection e; omega)).trans P2.out)
    have R3 : Hid (w3.heap[w.heap.size]? = some (.cells #[.int .i64 0, .int .i64 0] 28 (0, 0))) := Lib.hid ((g3.block w.heap.size (blk R2.out).2.2 (by intro e; injection e; omega)).trans R2.out)
    have d1 : w3.cell? ⟨w1.heap.size, 1, none⟩ = some (.int .i64 0) := (blk P3.out).1 1 _ rfl
    have f1 : w3.frozen? ⟨w1.heap.size, 1, none⟩ = false := (blk P3.out).2.1 1
    have K4 := Lib.hid (K3.out.kept (grown_setCell w3 w1.heap.size 1 (.int .i64 (y))) (fun k e => by cases e; omega))
    have G4 := Lib.hid (grown_new G3.out (grown_setCell w3 w1.heap.size 1 (.int .i64 (y))) (fun g e => by cases e; omega))
    have P4 : Hid ((w3.setCell ⟨w1.heap.size, 1, none⟩ (.int .i64 (y))).heap[w1.heap.size]? = some (.cells #[.int .i64 x, .int .i64 (y)] 28 (0, 0))) := Lib.hid (heap_setCell_at P3.out _)
    have R4 : Hid ((w3.setCell ⟨w1.heap.size, 1, none⟩ (.int .i64 (y))).heap[w.heap.size]? = some (.cells #[.int .i64 0, .int .i64 0] 28 (0, 0))) := Lib.hid ((set_other (by omega)).trans R3.out)
    clear H3 g3
    obtain ⟨W4, hW4⟩ : ∃ W, w3.setCell ⟨w1.heap.size, 1, none⟩ (.int .i64 (y)) = W := ⟨_, rfl⟩
    rw [hW4] at K4 G4 P4 R4
    have HW4 := Lib.hid hW4
    clear hW4
    go_upto_region 5 with fail
    rw [HW4.out]
    clear d1 f1 HW4
    have d1 : W4.cell? ⟨w1.heap.size, 1, none⟩ = some (.int .i64 y) := (blk P4.out).1 1 _ rfl
    have f1 : W4.frozen? ⟨w1.heap.size, 1, none⟩ = false := (blk P4.out).2.1 1
    have K5 := Lib.hid (K4.out.kept (grown_setCell W4 w1.heap.size 1 (.int .i64 (y - 100))) (fun k e => by cases e; omega))
    have G5 := Lib.hid (grown_new G4.out (grown_setCell W4 w1.heap.size 1 (.int .i64 (y - 100))) (fun g e => by cases e; omega))
    have P5 : Hid ((W4.setCell ⟨w1.heap.size, 1, none⟩ (.int .i64 (y - 100))).heap[w1.heap.size]? = some (.cells #[.int .i64 x, .int .i64 (y - 100)] 28 (0, 0))) := Lib.hid (heap_setCell_at P4.out _)
    have R5 : Hid ((W4.setCell ⟨w1.heap.size, 1, none⟩ (.int .i64 (y - 100))).heap[w.heap.size]? = some (.cells #[.int .i64 0, .int .i64 0] 28 (0, 0))) := Lib.hid ((set_other (by omega)).trans R4.out)
    obtain ⟨W5, hW5⟩ : ∃ W, W4.setCell ⟨w1.heap.size, 1, none⟩ (.int .i64 (y - 100)) = W := ⟨_, rfl⟩
    rw [hW5] at K5 G5 P5 R5
    have HW5 := Lib.hid hW5
    clear hW5
    go_upto_region 7 with fail
    rw [HW5.out]
    clear d1 f1 HW5
    have e0 : W5.cell? ⟨w1.heap.size, 0, none⟩ = some (.int .i64 x) := (blk P5.out).1 0 _ rfl
    have e1 : W5.cell? ⟨w1.heap.size, 1, none⟩ = some (.int .i64 (y - 100)) := (blk P5.out).1 1 _ rfl
    have g0 : W5.cell? ⟨w.heap.size, 0, none⟩ = some (.int .i64 0) := (blk R5.out).1 0 _ rfl
    have g1 : W5.cell? ⟨w.heap.size, 1, none⟩ = some (.int .i64 0) := (blk R5.out).1 1 _ rfl
    have p0 : W5.frozen? ⟨w.heap.size, 0, none⟩ = false := (blk R5.out).2.1 0
    have p1 : W5.frozen? ⟨w.heap.size, 1, none⟩ = false := (blk R5.out).2.1 1
    go_wp2_with fail
    refine bodyPost_ret (v := .agg #[.int .i64 x, .int .i64 (y - 100)]) (by simp [results, Try.results36, go_sem, g0, g1]) rfl ?_
    refine ⟨⟨x, y - 100⟩, INS.out (y - 100) (by omega) (by omega), rfl, ?_, ?_⟩
    · exact (K5.out.kept (grown_setCell _ w.heap.size 0 _) (fun k e => by cases e; exact hc)).kept (grown_setCell _ w.heap.size 1 _) (fun k e => by cases e; exact hc)
    · exact grown_new (grown_new G5.out (grown_setCell _ w.heap.size 0 _) (fun g e => by cases e; exact Nat.le_refl _)) (grown_setCell _ w.heap.size 1 _) (fun g e => by cases e; exact Nat.le_refl _)

/-- Valid instructions were drawn, in a row of their own. -/
def DrawnOps (B : Nat) (w : World) (e : Ending) (w' : World) : Prop :=
  ∃ (v : Value) (L : List OpL), e = .returned v ∧ (∀ x ∈ L, insB x = true) ∧ L.length ≤ 9 ∧ w'.ownsRow B 28 2 v L.length (opV L) ∧ Below B w w'

set_option maxHeartbeats 1000000 in
theorem d_ops (a : Option Addr) (len cap : Nat) (z : List Int) (w : World) (H : IsRow .u8 w a len cap z) (hl : len ≤ 1048576) :
    Calls Try.prog 10 #[.slice a len cap] w (DrawnOps w.heap.size w) := by
  obtain ⟨i0, hi, hz0, hz1, hz2⟩ := info_parts infoO
  have HC := Lib.hid H
  clear H
  go_enter Try.func10, Try.ntmps10
  go_wp2_with fail
  refine (d_new a len cap z _ HC.out hl).mono ?_
  rintro e w1 ⟨c, rfl, hc0, hc1, H1, B1⟩
  have K1 := Lib.hid (H1.alloc (.cells #[] 28))
  have L1 := Lib.hid (B1.alloc B1.size (.cells #[] 28))
  have O1 : Hid ((w1.alloc (.cells #[] 28)).ownsRow w1.heap.size 28 2 (.slice (some ⟨w1.heap.size, 0, none⟩) 0 0) ([] : List OpL).length (opV [])) := Lib.hid (World.ownsRow_lit (base := w1.heap.size) (e := 28) (size := 2) w1 #[] 0 (Nat.le_refl _) (by decide) rfl)
  have Z1 : Hid (w1.heap.size ≤ (w1.alloc (.cells #[] 28)).heap.size) := Lib.hid (by simp)
  have hw1 : w.heap.size ≤ w1.heap.size := B1.size
  clear H1 B1
  go_wp2_with fail
  refine (d_below c a len cap z 10 _ K1.out (by omega) (by omega)).mono ?_
  rintro e w2 ⟨y, y0, y1, rfl, H2, g2⟩
  obtain ⟨q, rfl⟩ := Int.eq_ofNat_of_zero_le y0
  have hq : q ≤ 9 := by omega
  have K2 := Lib.hid H2
  have L2 := Lib.hid (L1.out.grown g2 (by have := Z1.out; omega) (fun k hk => by injection hk with hk; omega))
  have O2 := Lib.hid (owns_far O1.out g2 hc1)
  have Z2 : Hid (w1.heap.size ≤ w2.heap.size) := Lib.hid (Nat.le_trans Z1.out g2.size)
  clear H2 g2 y0 y1
  go_wp2_with fail
  go_loopw [4, 5] (fun v i wr => ∃ (k : Nat) (D : List OpL), i = .int .i64 (k : Int) ∧ D.length + k ≤ 9 ∧ (∀ x ∈ D, insB x = true) ∧ wr.ownsRow w1.heap.size 28 2 v D.length (opV D) ∧ CurAt 104 wr c a len cap z ∧ Below w.heap.size w wr ∧ w1.heap.size ≤ wr.heap.size)
    (fun _ i _ => (intOf i).toNat)
  case atStart => exact ⟨q, [], rfl, by simpa using hq, (fun x hx => by cases hx), O2.out, K2.out, L2.out, Z2.out⟩
  case round =>
    obtain ⟨k, D, rfl, hk9, hD, hown, hcur, hbel, hz⟩ := hrel
    have HD := Lib.hid hD
    have HO := Lib.hid hown
    have HK := Lib.hid hcur
    have HB := Lib.hid hbel
    clear hD hown hcur hbel
    by_cases hk : 0 < k
    · obtain ⟨m, rfl⟩ : ∃ m, k = m + 1 := ⟨k - 1, by omega⟩
      have hk1 : (0 : Int) < ((m + 1 : Nat) : Int) := by omega
      have h63 : D.length + 1 ≤ maxLen := by unfold maxLen; omega
      have hby : (D.length + 1) * 16 ≤ 140737488355328 := by omega
      go_wp2_with fail
      refine (d_op c a len cap z _ HK.out).mono ?_
      rintro e w3 ⟨⟨xc, xa⟩, hx, rfl, H3, g3⟩
      have HX := Lib.hid hx
      have hown := owns_far HO.out g3 hc1
      have K3 := Lib.hid H3
      have L3 := Lib.hid (HB.out.grown g3 (by omega) (fun k hk => by injection hk with hk; omega))
      have z3 : w1.heap.size ≤ w3.heap.size := Nat.le_trans hz g3.size
      clear H3 g3 hx
      go_wp2_with (at_builtin; refine wpList_append_own _ rfl _ _ 24 rfl w1.heap.size 28 i0 _ 2 16 Try.underlying24 hi hz0 hz1 hz2 rfl (by decide) _ _ _ rfl (hown.alloc _) ⟨w3.heap.size, 0, none⟩ 1 1 [.int .i64 xc, .int .i64 xa] rfl rfl ?c1 ?c2 h63 hby ?c5 ?_)
      case c1 => exact World.news_of_block (heap_alloc_new w3 (.cells #[.int .i64 xc, .int .i64 xa] 28))
      case c2 => intro u hu; simp at hu; rcases hu with rfl | rfl <;> rfl
      case c5 => simp; omega
      intro v' w4 hown4 hgrow _
      have HO4 : Hid (w4.ownsRow w1.heap.size 28 2 v' (D ++ [(⟨xc, xa⟩ : OpL)]).length (opV (D ++ [(⟨xc, xa⟩ : OpL)]))) := Lib.hid (by rw [opV_append, List.length_append]; exact hown4)
      have K4 : Hid (CurAt 104 w4 c a len cap z) := Lib.hid ((K3.out.alloc _).kept hgrow (fun g e => by have := (hown.lt g e).1; omega))
      have L4 : Hid (Below w.heap.size w w4) := Lib.hid ((L3.out.alloc L3.out.size _).grown hgrow (by simp; omega) (fun g e => by have := (hown.lt g e).1; omega))
      have z4 : w1.heap.size ≤ w4.heap.size := by have := hgrow.size; simp at this; omega
      clear hown hown4 hgrow
      have HD4 : Hid (∀ x ∈ D ++ [(⟨xc, xa⟩ : OpL)], insB x = true) := Lib.hid (fun x hx => by
        rcases List.mem_append.1 hx with h | h
        · exact HD.out x h
        · rw [List.mem_singleton] at h; rw [h]; exact HX.out)
      go_wp2
      go_roundw
      case rel => exact ⟨m, D ++ [(⟨xc, xa⟩ : OpL)], by go_num, by rw [List.length_append, List.length_singleton]; omega, HD4.out, HO4.out, K4.out, L4.out, z4⟩
      case measure => simp [intOf]
    · have hk0 : k = 0 := by omega
      subst hk0
      go_wp2
      go_ret
      exact ⟨_, D, rfl, HD.out, by omega, ⟨HO.out.1, by
        rcases HO.out.2 with h | ⟨g, cp, cur, h1, h2, h3⟩
        · exact .inl h
        · exact .inr ⟨g, cp, cur, h1, Nat.le_trans hw1 h2, h3⟩⟩, HB.out⟩
end Go.Proofs.Ytcflojdkaddemaa
