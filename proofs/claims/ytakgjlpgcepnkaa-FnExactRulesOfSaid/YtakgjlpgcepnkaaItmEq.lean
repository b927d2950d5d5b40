/- The laws' eqItem. -/
import Derived.Test.YtakgjlpgcepnkaaItmTo
import Derived.Test.YtakgjlpgcepnkaaOpEq
import Derived.Test.YtakgjlpgcepnkaaEqInts
import Derived.Deep.RegionHeld3
namespace Go.Proofs.Ytakgjlpgcepnkaa
open Go.RowKit Go.Lib

set_option maxRecDepth 100000 in
set_option maxHeartbeats 2000000 in
theorem l_eqItem (co ar li : Int) (st : Bool) (ch : List Int) (de : Int) (en : Bool) (a b : Option Addr) (c d : Nat) (w : World) (ha : ReadI w a ch) (hb : ReadI w b ch) (hl : ch.length ≤ 1048576) :
    Calls Try.prog 64 #[.agg #[.int .i64 co, .int .i64 ar, .int .i64 li, .bool st, .slice a ch.length c, .int .i64 de, .bool en], .agg #[.int .i64 co, .int .i64 ar, .int .i64 li, .bool st, .slice b ch.length d, .int .i64 de, .bool en]] w fun e w' => e = .returned (.bool true) ∧ Below w.heap.size w w' := by
  have HA := Lib.hid ha
  have HB := Lib.hid hb
  have HL := Lib.hid hl
  clear ha hb hl
  obtain ⟨w2, hw2⟩ : ∃ W, (w.alloc (.cells #[.int .i64 co, .int .i64 ar, .int .i64 li, .bool st, .slice a ch.length c, .int .i64 de, .bool en] 37)).alloc (.cells #[.int .i64 co, .int .i64 ar, .int .i64 li, .bool st, .slice b ch.length d, .int .i64 de, .bool en] 37) = W := ⟨_, rfl⟩
  have HBW : Hid (Below w.heap.size w w2) := Lib.hid (by rw [← hw2]; exact ((Below.refl _ _).alloc (Nat.le_refl _) _).alloc (by simp) _)
  have HR0 : Hid (w2.heap[w.heap.size]? = some (.cells #[.int .i64 co, .int .i64 ar, .int .i64 li, .bool st, .slice a ch.length c, .int .i64 de, .bool en] 37 (0, 0))) := Lib.hid (by rw [← hw2]; exact (Below.heap_alloc _ _ _ (by simp)).trans (heap_alloc_new w _))
  have HR1 : Hid (w2.heap[w.heap.size + 1]? = some (.cells #[.int .i64 co, .int .i64 ar, .int .i64 li, .bool st, .slice b ch.length d, .int .i64 de, .bool en] 37 (0, 0))) := Lib.hid (by
    rw [← hw2]
    have h := heap_alloc_new (w.alloc (.cells #[.int .i64 co, .int .i64 ar, .int .i64 li, .bool st, .slice a ch.length c, .int .i64 de, .bool en] 37)) (.cells #[.int .i64 co, .int .i64 ar, .int .i64 li, .bool st, .slice b ch.length d, .int .i64 de, .bool en] 37)
    have e : (w.alloc (.cells #[.int .i64 co, .int .i64 ar, .int .i64 li, .bool st, .slice a ch.length c, .int .i64 de, .bool en] 37)).heap.size = w.heap.size + 1 := by simp
    rw [e] at h
    exact h)
  have HWE := Lib.hid hw2
  clear hw2
  go_enter Try.func64, Try.ntmps64
  go_wp2_with fail
  rw [HWE.out]
  refine (l_eqOp co ar w2).mono ?_
  rintro e w3 ⟨rfl, b3⟩
  have q0 := (b3.block _ (blk HR0.out).2.2).trans HR0.out
  have q1 := (b3.block _ (blk HR1.out).2.2).trans HR1.out
  have HB3 : Hid (Below w.heap.size w w3) := Lib.hid (HBW.out.trans (b3.mono HBW.out.size))
  have HQ0 := Lib.hid q0
  have HQ1 := Lib.hid q1
  have HE : Hid (Calls Try.prog 84 #[.slice a ch.length c, .slice b ch.length d] w3 fun e w' => e = .returned (.bool true) ∧ Below w3.heap.size w3 w') := Lib.hid (l_eqInts a b c d ch w3 (fun j hj => by
    obtain ⟨g, e, h1, h2⟩ := HA.out j hj
    exact ⟨g, e, Nat.lt_of_lt_of_le h1 HB3.out.size, (HB3.out.cell (p := ⟨g, j, none⟩) h1).trans h2⟩) (fun j hj => by
    obtain ⟨g, e, h1, h2⟩ := HB.out j hj
    exact ⟨g, e, Nat.lt_of_lt_of_le h1 HB3.out.size, (HB3.out.cell (p := ⟨g, j, none⟩) h1).trans h2⟩) (by have := HL.out; omega))
  have c2 : w3.cell? ⟨w.heap.size, 2, none⟩ = some (.int .i64 li) := (blk q0).1 2 _ rfl
  have c3 : w3.cell? ⟨w.heap.size, 3, none⟩ = some (.bool st) := (blk q0).1 3 _ rfl
  have c4 : w3.cell? ⟨w.heap.size, 4, none⟩ = some (.slice a ch.length c) := (blk q0).1 4 _ rfl
  have d2 : w3.cell? ⟨w.heap.size + 1, 2, none⟩ = some (.int .i64 li) := (blk q1).1 2 _ rfl
  have d3 : w3.cell? ⟨w.heap.size + 1, 3, none⟩ = some (.bool st) := (blk q1).1 3 _ rfl
  have d4 : w3.cell? ⟨w.heap.size + 1, 4, none⟩ = some (.slice b ch.length d) := (blk q1).1 4 _ rfl
  clear q0 q1 b3
  go_wp2_with fail
  refine HE.out.mono ?_
  rintro e w4 ⟨rfl, b4⟩
  have q0 := (b4.block _ (blk HQ0.out).2.2).trans HQ0.out
  have q1 := (b4.block _ (blk HQ1.out).2.2).trans HQ1.out
  have HB4 : Hid (Below w.heap.size w w4) := Lib.hid (HB3.out.trans (b4.mono HB3.out.size))
  have x5 : w4.cell? ⟨w.heap.size, 5, none⟩ = some (.int .i64 de) := (blk q0).1 5 _ rfl
  have x6 : w4.cell? ⟨w.heap.size, 6, none⟩ = some (.bool en) := (blk q0).1 6 _ rfl
  have y5 : w4.cell? ⟨w.heap.size + 1, 5, none⟩ = some (.int .i64 de) := (blk q1).1 5 _ rfl
  have y6 : w4.cell? ⟨w.heap.size + 1, 6, none⟩ = some (.bool en) := (blk q1).1 6 _ rfl
  clear q0 q1 b4 c2 c3 c4 d2 d3 d4
  go_wp2
  go_ret
  exact ⟨rfl, HB4.out⟩
end Go.Proofs.Ytakgjlpgcepnkaa
