/- The laws' toLine: the program's line made of the argument. -/
import Derived.Test.YthmllcpldgbbcaaDoorLineLaw
import Derived.Test.YthmllcpldgbbcaaDoorPlainB
namespace Go.Proofs.YthmllcpldgbbcaaDoor
open Go.RowKit Go.Lib

set_option maxRecDepth 100000 in
set_option maxHeartbeats 1000000 in
theorem l_toLine (x : ALine) (w : World) (hs : SmallL x.p) (ha : ArgLn w x) :
    Calls Tryd.prog 38 #[.agg #[.int .i64 x.p.kind, .string x.p.name, .slice x.aa x.p.args.length x.ca, .slice x.ae x.p.expr.length x.ce]] w (LnRes 9 70 w.heap.size x.p w) := by
  obtain ⟨⟨hA, hT⟩, _⟩ := ha
  have HA := Lib.hid hA
  have HT := Lib.hid hT
  have HS := Lib.hid hs
  clear hA hT hs
  obtain ⟨⟨k, nm, gs, ex⟩, aa, ca, ae, ce⟩ := x
  dsimp only at HA HT HS ⊢
  have T3 := Lib.hid (three_new w (.cells #[.int .i64 k, .string nm, .slice aa gs.length ca, .slice ae ex.length ce] 55) (.cells #[.int .i64 0, .string ⟨#[]⟩, .slice none 0 0, .slice none 0 0] 34) (.cells #[.int .i64 k, .string nm, .slice none 0 0, .slice none 0 0] 34))
  go_enter Tryd.func38, Tryd.ntmps38
  go_wp2_with fail
  refine (l_toStrS aa ca gs _ HS.out.2.1 (HA.out.below T3.out.2.2.2.2)).mono ?_
  rintro e w1 ⟨va, rfl, O1, b1⟩
  obtain ⟨av, cv, rfl⟩ := owns_shape O1
  obtain ⟨t0, t1, t2, tz, tb⟩ := T3.out
  rw [tz] at O1 b1
  have p0 := (b1.block _ (by omega)).trans t0
  have p1 := (b1.block _ (by omega)).trans t1
  have p2 := (b1.block _ (by omega)).trans t2
  have z1 := b1.size
  rw [tz] at z1
  have HB1 : Hid (Below w.heap.size w w1) := Lib.hid (tb.trans (b1.mono (by omega)))
  have HO1 := Lib.hid O1
  have HP0 := Lib.hid p0
  have HP1 := Lib.hid p1
  have HP2 := Lib.hid p2
  have e0 : w1.cell? ⟨w.heap.size, 3, none⟩ = some (.slice ae ex.length ce) := (blk p0).1 3 _ rfl
  have e2 : w1.cell? ⟨w.heap.size + 1 + 1, 2, none⟩ = some (.slice none 0 0) := (blk p2).1 2 _ rfl
  have f2 := (blk p2).2.1 2
  have l2 := (blk p2).2.2
  have GS := Lib.hid (grown_setCell w1 (w.heap.size + 1 + 1) 2 (.slice av gs.length cv))
  have HB2 : Hid (Below w.heap.size w (w1.setCell ⟨w.heap.size + 1 + 1, 2, none⟩ (.slice av gs.length cv))) := Lib.hid (HB1.out.setCell (by simp; omega) _)
  clear t0 t1 t2 tz tb p0 p1 p2 O1 b1
  go_wp2_with fail
  refine (l_toTokS ae ce ex _ HS.out.2.2.2.1 (HT.out.below HB2.out)).mono ?_
  rintro e w2 ⟨ve, rfl, O2, b2⟩
  obtain ⟨ax, cx, rfl⟩ := owns3_shape O2
  have sz : (w1.setCell ⟨w.heap.size + 1 + 1, 2, none⟩ (.slice av gs.length cv)).heap.size = w1.heap.size := by simp [World.setCell]
  have q1 := (b2.block _ (by rw [sz]; omega)).trans ((set_other (by omega)).trans HP1.out)
  have q2 := (b2.block _ (by rw [sz]; omega)).trans (heap_setCell_at HP2.out (.slice av gs.length cv))
  have z2 := b2.size
  rw [sz] at z2
  have HB3 : Hid (Below w.heap.size w w2) := Lib.hid (HB2.out.trans (b2.mono (by rw [sz]; omega)))
  have HO1' := Lib.hid (owns_below (HO1.out.kept GS.out (.inr (fun e => by have := (HO1.out.lt _ e).1; omega))) b2)
  rw [sz] at O2
  have HO2 := Lib.hid O2
  have c20 : w2.cell? ⟨w.heap.size + 1 + 1, 0, none⟩ = some (.int .i64 k) := (blk q2).1 0 _ rfl
  have c21 : w2.cell? ⟨w.heap.size + 1 + 1, 1, none⟩ = some (.string nm) := (blk q2).1 1 _ rfl
  have c22 : w2.cell? ⟨w.heap.size + 1 + 1, 2, none⟩ = some (.slice av gs.length cv) := (blk q2).1 2 _ rfl
  have c23 : w2.cell? ⟨w.heap.size + 1 + 1, 3, none⟩ = some (.slice none 0 0) := (blk q2).1 3 _ rfl
  have g2 := (blk q2).2.1 3
  have d0 : w2.cell? ⟨w.heap.size + 1, 0, none⟩ = some (.int .i64 0) := (blk q1).1 0 _ rfl
  have d1 : w2.cell? ⟨w.heap.size + 1, 1, none⟩ = some (.string ⟨#[]⟩) := (blk q1).1 1 _ rfl
  have d2 : w2.cell? ⟨w.heap.size + 1, 2, none⟩ = some (.slice none 0 0) := (blk q1).1 2 _ rfl
  have d3 : w2.cell? ⟨w.heap.size + 1, 3, none⟩ = some (.slice none 0 0) := (blk q1).1 3 _ rfl
  have g10 := (blk q1).2.1 0
  have g11 := (blk q1).2.1 1
  have g12 := (blk q1).2.1 2
  have g13 := (blk q1).2.1 3
  have m2 := (blk q2).2.2
  have m1 := (blk q1).2.2
  clear e0 e2 f2 sz q1 q2 O2 b2
  go_wp2
  refine bodyPost_ret (v := .agg #[.int .i64 k, .string nm, .slice av gs.length cv, .slice ax ex.length cx]) (by simp [results, Tryd.results38, go_sem, d0, d1, d2, d3, m1, m2, c20, c21, c22, c23]) rfl ⟨.slice av gs.length cv, .slice ax ex.length cx, rfl, ?_, ?_, ?_⟩
  · exact owns_lo (owns_set (owns_set (owns_set (owns_set (owns_set HO1'.out (by omega)) (by omega)) (by omega)) (by omega)) (by omega)) (by omega)
  · exact owns_lo (owns_set (owns_set (owns_set (owns_set (owns_set HO2.out (by omega)) (by omega)) (by omega)) (by omega)) (by omega)) (by omega)
  · exact ((((HB3.out.setCell (by simp; omega) _).setCell (by simp) _).setCell (by simp) _).setCell (by simp) _).setCell (by simp) _
end Go.Proofs.YthmllcpldgbbcaaDoor
