/- The laws' toPlace: the program's place made of the argument. -/
import Derived.Test.YtakgjlpgcepnkaaPlaSz
import Derived.Test.YtakgjlpgcepnkaaItmTo
namespace Go.Proofs.Ytakgjlpgcepnkaa
open Go.RowKit Go.Lib

abbrev plz : Array Value := #[.int .i64 0, .int .i64 0, .int .i64 0, .int .i64 0, .bool false, .slice none 0 0, .int .i64 0, .bool false]
def PlaRes (B : Nat) (y : PPl) (w : World) (e : Ending) (w' : World) : Prop :=
  ∃ v, e = .returned (.agg #[.int .i64 y.off, .int .i64 y.p.code, .int .i64 y.p.arg, .int .i64 y.p.line, .bool y.p.start, v, .int .i64 y.p.depth, .bool y.p.ent]) ∧ w'.ownsRow B 3 1 v y.p.chain.length (intV y.p.chain) ∧ Below w.heap.size w w'
set_option maxRecDepth 100000 in
set_option maxHeartbeats 2000000 in
theorem l_toPlace (y : APl) (w : World) (hs : y.x.p.chain.length ≤ 1048576) (ha : ArgIt w y.x) :
    Calls Try.prog 46 #[.agg #[.int .i64 y.off, .int .i64 y.x.p.code, .int .i64 y.x.p.arg, .int .i64 y.x.p.line, .bool y.x.p.start, .slice y.x.a y.x.p.chain.length y.x.c, .int .i64 y.x.p.depth, .bool y.x.p.ent]] w (PlaRes w.heap.size y.pp w) := by
  have T3 := Lib.hid (three_new w (.cells #[.int .i64 y.off, .int .i64 y.x.p.code, .int .i64 y.x.p.arg, .int .i64 y.x.p.line, .bool y.x.p.start, .slice y.x.a y.x.p.chain.length y.x.c, .int .i64 y.x.p.depth, .bool y.x.p.ent] 80) (.cells plz 39) (.cells #[.int .i64 y.off, .int .i64 0, .int .i64 0, .int .i64 0, .bool false, .slice none 0 0, .int .i64 0, .bool false] 39))
  obtain ⟨W, hW⟩ : ∃ W, ((w.alloc (.cells #[.int .i64 y.off, .int .i64 y.x.p.code, .int .i64 y.x.p.arg, .int .i64 y.x.p.line, .bool y.x.p.start, .slice y.x.a y.x.p.chain.length y.x.c, .int .i64 y.x.p.depth, .bool y.x.p.ent] 80)).alloc (.cells plz 39)).alloc (.cells #[.int .i64 y.off, .int .i64 0, .int .i64 0, .int .i64 0, .bool false, .slice none 0 0, .int .i64 0, .bool false] 39) = W := ⟨_, rfl⟩
  rw [hW] at T3
  have HB2 : Hid (Below w.heap.size w W) := Lib.hid T3.out.2.2.2.2
  have HQ0 := Lib.hid T3.out.1
  have HQ1 := Lib.hid T3.out.2.1
  have HQ2 := Lib.hid T3.out.2.2.1
  have HTI := Lib.hid (l_toItem y.x W hs ⟨ha.1.below HB2.out, ha.2⟩)
  clear ha
  obtain ⟨of, ⟨⟨co, ar, li, st, ch, de, en⟩, xa, xc⟩⟩ := y
  unfold ItmRes at HTI
  dsimp only [APl.pp] at HTI hs hW HQ0 HQ2 ⊢
  have HWE := Lib.hid hW
  clear hW T3
  go_enter Try.func46, Try.ntmps46
  go_wp2_with fail
  rw [HWE.out]
  refine HTI.out.mono ?_
  rintro e w2 ⟨va, rfl, O1, b1⟩
  obtain ⟨av, cv, rfl⟩ := owns_shape O1
  have q1 := (b1.block _ (blk HQ1.out).2.2).trans HQ1.out
  have q2 := (b1.block _ (blk HQ2.out).2.2).trans HQ2.out
  have hzs := HB2.out.size
  have HB3 : Hid (Below w.heap.size w w2) := Lib.hid (HB2.out.trans (b1.mono hzs))
  have zW : w.heap.size + 1 + 1 < W.heap.size := (blk HQ2.out).2.2
  have HO1 := Lib.hid O1
  have c20 : w2.cell? ⟨w.heap.size + 1 + 1, 0, none⟩ = some (.int .i64 of) := (blk q2).1 0 _ rfl
  have g0 := (blk q2).2.1 0
  have c21 : w2.cell? ⟨w.heap.size + 1 + 1, 1, none⟩ = some (.int .i64 0) := (blk q2).1 1 _ rfl
  have g1 := (blk q2).2.1 1
  have c22 : w2.cell? ⟨w.heap.size + 1 + 1, 2, none⟩ = some (.int .i64 0) := (blk q2).1 2 _ rfl
  have g2 := (blk q2).2.1 2
  have c23 : w2.cell? ⟨w.heap.size + 1 + 1, 3, none⟩ = some (.int .i64 0) := (blk q2).1 3 _ rfl
  have g3 := (blk q2).2.1 3
  have c24 : w2.cell? ⟨w.heap.size + 1 + 1, 4, none⟩ = some (.bool false) := (blk q2).1 4 _ rfl
  have g4 := (blk q2).2.1 4
  have c25 : w2.cell? ⟨w.heap.size + 1 + 1, 5, none⟩ = some (.slice none 0 0) := (blk q2).1 5 _ rfl
  have g5 := (blk q2).2.1 5
  have c26 : w2.cell? ⟨w.heap.size + 1 + 1, 6, none⟩ = some (.int .i64 0) := (blk q2).1 6 _ rfl
  have g6 := (blk q2).2.1 6
  have c27 : w2.cell? ⟨w.heap.size + 1 + 1, 7, none⟩ = some (.bool false) := (blk q2).1 7 _ rfl
  have g7 := (blk q2).2.1 7
  have m2 := (blk q2).2.2
  have d0 : w2.cell? ⟨w.heap.size + 1, 0, none⟩ = some (.int .i64 0) := (blk q1).1 0 _ rfl
  have k0 := (blk q1).2.1 0
  have d1 : w2.cell? ⟨w.heap.size + 1, 1, none⟩ = some (.int .i64 0) := (blk q1).1 1 _ rfl
  have k1 := (blk q1).2.1 1
  have d2 : w2.cell? ⟨w.heap.size + 1, 2, none⟩ = some (.int .i64 0) := (blk q1).1 2 _ rfl
  have k2 := (blk q1).2.1 2
  have d3 : w2.cell? ⟨w.heap.size + 1, 3, none⟩ = some (.int .i64 0) := (blk q1).1 3 _ rfl
  have k3 := (blk q1).2.1 3
  have d4 : w2.cell? ⟨w.heap.size + 1, 4, none⟩ = some (.bool false) := (blk q1).1 4 _ rfl
  have k4 := (blk q1).2.1 4
  have d5 : w2.cell? ⟨w.heap.size + 1, 5, none⟩ = some (.slice none 0 0) := (blk q1).1 5 _ rfl
  have k5 := (blk q1).2.1 5
  have d6 : w2.cell? ⟨w.heap.size + 1, 6, none⟩ = some (.int .i64 0) := (blk q1).1 6 _ rfl
  have k6 := (blk q1).2.1 6
  have d7 : w2.cell? ⟨w.heap.size + 1, 7, none⟩ = some (.bool false) := (blk q1).1 7 _ rfl
  have k7 := (blk q1).2.1 7
  have m1 := (blk q1).2.2
  clear q1 q2 O1 b1
  go_wp2
  refine bodyPost_ret (v := .agg #[.int .i64 of, .int .i64 co, .int .i64 ar, .int .i64 li, .bool st, .slice av ch.length cv, .int .i64 de, .bool en]) (by simp [results, Try.results46, go_sem, d0, d1, d2, d3, d4, d5, d6, d7, m1, m2, c20, c21, c22, c23, c24, c25, c26, c27]) rfl ⟨.slice av ch.length cv, rfl, ?_, ?_⟩
  · have hle : w.heap.size ≤ W.heap.size := hzs
    exact owns_lo (owns_set (owns_set (owns_set (owns_set (owns_set (owns_set (owns_set (owns_set (owns_set (owns_set (owns_set (owns_set (owns_set (owns_set (owns_set (HO1.out) (by omega)) (by omega)) (by omega)) (by omega)) (by omega)) (by omega)) (by omega)) (by omega)) (by omega)) (by omega)) (by omega)) (by omega)) (by omega)) (by omega)) (by omega)) hle
  · exact Below.setCell (Below.setCell (Below.setCell (Below.setCell (Below.setCell (Below.setCell (Below.setCell (Below.setCell (Below.setCell (Below.setCell (Below.setCell (Below.setCell (Below.setCell (Below.setCell (Below.setCell (HB3.out) (by simp <;> omega) _) (by simp <;> omega) _) (by simp <;> omega) _) (by simp <;> omega) _) (by simp <;> omega) _) (by simp <;> omega) _) (by simp <;> omega) _) (by simp <;> omega) _) (by simp <;> omega) _) (by simp <;> omega) _) (by simp <;> omega) _) (by simp <;> omega) _) (by simp <;> omega) _) (by simp <;> omega) _) (by simp <;> omega) _
end Go.Proofs.Ytakgjlpgcepnkaa
