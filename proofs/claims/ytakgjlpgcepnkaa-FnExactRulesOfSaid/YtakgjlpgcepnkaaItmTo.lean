/- The laws' toItemS: the program's row of items made of the argument. -/
import Derived.Test.YtakgjlpgcepnkaaItmSzA
import Derived.Test.YtakgjlpgcepnkaaOpTo
import Derived.Test.YtakgjlpgcepnkaaPlainC
namespace Go.Proofs.Ytakgjlpgcepnkaa
open Go.RowKit Go.Lib

abbrev itz : Array Value := #[.int .i64 0, .int .i64 0, .int .i64 0, .bool false, .slice none 0 0, .int .i64 0, .bool false]
def ItmRes (B : Nat) (x : PIt) (w : World) (e : Ending) (w' : World) : Prop :=
  ∃ v, e = .returned (.agg #[.int .i64 x.code, .int .i64 x.arg, .int .i64 x.line, .bool x.start, v, .int .i64 x.depth, .bool x.ent]) ∧ w'.ownsRow B 3 1 v x.chain.length (intV x.chain) ∧ Below w.heap.size w w'
set_option maxRecDepth 100000 in
set_option maxHeartbeats 2000000 in
theorem l_toItem (x : AIt) (w : World) (hs : x.p.chain.length ≤ 1048576) (ha : ArgIt w x) :
    Calls Try.prog 63 #[.agg #[.int .i64 x.p.code, .int .i64 x.p.arg, .int .i64 x.p.line, .bool x.p.start, .slice x.a x.p.chain.length x.c, .int .i64 x.p.depth, .bool x.p.ent]] w (ItmRes w.heap.size x.p w) := by
  have HA := Lib.hid ha.1
  clear ha
  obtain ⟨⟨co, ar, li, st, ch, de, en⟩, xa, xc⟩ := x
  dsimp only at HA hs ⊢
  have T3 := Lib.hid (three_new w (.cells #[.int .i64 co, .int .i64 ar, .int .i64 li, .bool st, .slice xa ch.length xc, .int .i64 de, .bool en] 78) (.cells itz 37) (.cells itz 37))
  have HT := Lib.hid (fun W => l_toOp co ar W)
  go_enter Try.func63, Try.ntmps63
  go_wp2_with fail
  refine (HT.out _).mono ?_
  rintro e w1 ⟨rfl, b1⟩
  obtain ⟨t0, t1, t2, tz, tb⟩ := T3.out
  rw [tz] at b1
  have p0 := (b1.block _ (by omega)).trans t0
  have p1 := (b1.block _ (by omega)).trans t1
  have p2 := (b1.block _ (by omega)).trans t2
  have HB1 : Hid (Below w.heap.size w w1) := Lib.hid (tb.trans (b1.mono (by omega)))
  have z1 := b1.size
  have HP0 := Lib.hid p0
  have HP1 := Lib.hid p1
  have HP2 := Lib.hid p2
  have e2 : w1.cell? ⟨w.heap.size, 2, none⟩ = some (.int .i64 li) := (blk p0).1 2 _ rfl
  have e3 : w1.cell? ⟨w.heap.size, 3, none⟩ = some (.bool st) := (blk p0).1 3 _ rfl
  have e4 : w1.cell? ⟨w.heap.size, 4, none⟩ = some (.slice xa ch.length xc) := (blk p0).1 4 _ rfl
  have x0 : w1.cell? ⟨w.heap.size + 1 + 1, 0, none⟩ = some (.int .i64 0) := (blk p2).1 0 _ rfl
  have x1 : w1.cell? ⟨w.heap.size + 1 + 1, 1, none⟩ = some (.int .i64 0) := (blk p2).1 1 _ rfl
  have x2 : w1.cell? ⟨w.heap.size + 1 + 1, 2, none⟩ = some (.int .i64 0) := (blk p2).1 2 _ rfl
  have x3 : w1.cell? ⟨w.heap.size + 1 + 1, 3, none⟩ = some (.bool false) := (blk p2).1 3 _ rfl
  have f0 := (blk p2).2.1 0
  have f1 := (blk p2).2.1 1
  have f2 := (blk p2).2.1 2
  have f3 := (blk p2).2.1 3
  have l2 := (blk p2).2.2
  clear t0 t1 t2 tz tb p0 p1 p2 b1
  obtain ⟨W, hW⟩ : ∃ W, (((w1.setCell ⟨w.heap.size + 1 + 1, 0, none⟩ (.int .i64 co)).setCell ⟨w.heap.size + 1 + 1, 1, none⟩ (.int .i64 ar)).setCell ⟨w.heap.size + 1 + 1, 2, none⟩ (.int .i64 li)).setCell ⟨w.heap.size + 1 + 1, 3, none⟩ (.bool st) = W := ⟨_, rfl⟩
  have HB2 : Hid (Below w.heap.size w W) := Lib.hid (by rw [← hW]; exact (((HB1.out.setCell (by simp; omega) _).setCell (by simp; omega) _).setCell (by simp; omega) _).setCell (by simp; omega) _)
  have HQ0 : Hid (W.heap[w.heap.size]? = some (.cells #[.int .i64 co, .int .i64 ar, .int .i64 li, .bool st, .slice xa ch.length xc, .int .i64 de, .bool en] 78 (0, 0))) := Lib.hid (by rw [← hW]; exact (set_other (by omega)).trans ((set_other (by omega)).trans ((set_other (by omega)).trans ((set_other (by omega)).trans HP0.out))))
  have HQ1 : Hid (W.heap[w.heap.size + 1]? = some (.cells itz 37 (0, 0))) := Lib.hid (by rw [← hW]; exact (set_other (by omega)).trans ((set_other (by omega)).trans ((set_other (by omega)).trans ((set_other (by omega)).trans HP1.out))))
  have HQ2 : Hid (W.heap[w.heap.size + 1 + 1]? = some (.cells #[.int .i64 co, .int .i64 ar, .int .i64 li, .bool st, .slice none 0 0, .int .i64 0, .bool false] 37 (0, 0))) := Lib.hid (by
    rw [← hW]
    have h0 := heap_setCell_at HP2.out (.int .i64 co) (j := 0)
    have h1 := heap_setCell_at h0 (.int .i64 ar) (j := 1)
    have h2 := heap_setCell_at h1 (.int .i64 li) (j := 2)
    exact heap_setCell_at h2 (.bool st) (j := 3))
  have HTI := Lib.hid (l_toIntS xa xc ch W hs (HA.out.below HB2.out))
  have HWE := Lib.hid hW
  clear hW HP0 HP1 HP2
  go_wp2_with fail
  rw [HWE.out]
  refine HTI.out.mono ?_
  rintro e w2 ⟨va, rfl, O1, b1⟩
  obtain ⟨av, cv, rfl⟩ := owns_shape O1
  have q0 := (b1.block _ (blk HQ0.out).2.2).trans HQ0.out
  have q1 := (b1.block _ (blk HQ1.out).2.2).trans HQ1.out
  have q2 := (b1.block _ (blk HQ2.out).2.2).trans HQ2.out
  have hzs := HB2.out.size
  have HB3 : Hid (Below w.heap.size w w2) := Lib.hid (HB2.out.trans (b1.mono hzs))
  have zW : w.heap.size + 1 + 1 < W.heap.size := (blk HQ2.out).2.2
  have HO1 := Lib.hid O1
  have c05 : w2.cell? ⟨w.heap.size, 5, none⟩ = some (.int .i64 de) := (blk q0).1 5 _ rfl
  have c06 : w2.cell? ⟨w.heap.size, 6, none⟩ = some (.bool en) := (blk q0).1 6 _ rfl
  have c20 : w2.cell? ⟨w.heap.size + 1 + 1, 0, none⟩ = some (.int .i64 co) := (blk q2).1 0 _ rfl
  have c21 : w2.cell? ⟨w.heap.size + 1 + 1, 1, none⟩ = some (.int .i64 ar) := (blk q2).1 1 _ rfl
  have c22 : w2.cell? ⟨w.heap.size + 1 + 1, 2, none⟩ = some (.int .i64 li) := (blk q2).1 2 _ rfl
  have c23 : w2.cell? ⟨w.heap.size + 1 + 1, 3, none⟩ = some (.bool st) := (blk q2).1 3 _ rfl
  have c24 : w2.cell? ⟨w.heap.size + 1 + 1, 4, none⟩ = some (.slice none 0 0) := (blk q2).1 4 _ rfl
  have c25 : w2.cell? ⟨w.heap.size + 1 + 1, 5, none⟩ = some (.int .i64 0) := (blk q2).1 5 _ rfl
  have c26 : w2.cell? ⟨w.heap.size + 1 + 1, 6, none⟩ = some (.bool false) := (blk q2).1 6 _ rfl
  have g4 := (blk q2).2.1 4
  have g5 := (blk q2).2.1 5
  have g6 := (blk q2).2.1 6
  have m2 := (blk q2).2.2
  have d0 : w2.cell? ⟨w.heap.size + 1, 0, none⟩ = some (.int .i64 0) := (blk q1).1 0 _ rfl
  have d1 : w2.cell? ⟨w.heap.size + 1, 1, none⟩ = some (.int .i64 0) := (blk q1).1 1 _ rfl
  have d2 : w2.cell? ⟨w.heap.size + 1, 2, none⟩ = some (.int .i64 0) := (blk q1).1 2 _ rfl
  have d3 : w2.cell? ⟨w.heap.size + 1, 3, none⟩ = some (.bool false) := (blk q1).1 3 _ rfl
  have d4 : w2.cell? ⟨w.heap.size + 1, 4, none⟩ = some (.slice none 0 0) := (blk q1).1 4 _ rfl
  have d5 : w2.cell? ⟨w.heap.size + 1, 5, none⟩ = some (.int .i64 0) := (blk q1).1 5 _ rfl
  have d6 : w2.cell? ⟨w.heap.size + 1, 6, none⟩ = some (.bool false) := (blk q1).1 6 _ rfl
  have k0 := (blk q1).2.1 0
  have k1 := (blk q1).2.1 1
  have k2 := (blk q1).2.1 2
  have k3 := (blk q1).2.1 3
  have k4 := (blk q1).2.1 4
  have k5 := (blk q1).2.1 5
  have k6 := (blk q1).2.1 6
  have m1 := (blk q1).2.2
  clear e2 e3 e4 x0 x1 x2 x3 f0 f1 f2 f3 l2 q0 q1 q2 O1 b1
  go_wp2
  refine bodyPost_ret (v := .agg #[.int .i64 co, .int .i64 ar, .int .i64 li, .bool st, .slice av ch.length cv, .int .i64 de, .bool en]) (by simp [results, Try.results63, go_sem, d0, d1, d2, d3, d4, d5, d6, m1, m2, c20, c21, c22, c23, c24, c25, c26]) rfl ⟨.slice av ch.length cv, rfl, ?_, ?_⟩
  · have hle : w.heap.size ≤ W.heap.size := hzs
    exact owns_lo (owns_set (owns_set (owns_set (owns_set (owns_set (owns_set (owns_set (owns_set (owns_set (owns_set HO1.out (by omega)) (by omega)) (by omega)) (by omega)) (by omega)) (by omega)) (by omega)) (by omega)) (by omega)) (by omega)) hle
  · exact (((((((((HB3.out.setCell (by simp; omega) _).setCell (by simp; omega) _).setCell (by simp; omega) _).setCell (by simp) _).setCell (by simp) _).setCell (by simp) _).setCell (by simp) _).setCell (by simp) _).setCell (by simp) _).setCell (by simp) _
end Go.Proofs.Ytakgjlpgcepnkaa
