/- The laws' eqLine: two lines that hold the same are equal. -/
import Derived.Test.YthmllcpldgbbcaaDoorPlainB
import Derived.Test.YthmllcpldgbbcaaDoorEqStrs
import Derived.Test.YthmllcpldgbbcaaDoorTokEq
import Derived.Outline
import Derived.Lib.Hide
namespace Go.Proofs.YthmllcpldgbbcaaDoor
open Go.RowKit Go.Lib

set_option maxRecDepth 100000 in
set_option maxHeartbeats 1000000 in
theorem l_eqLine (k : Int) (nm : ByteArray) (gs : List ByteArray) (ex : List TokL) (a1 a2 b1 b2 : Option Addr) (c1 c2 d1 d2 : Nat) (w : World) (h1 : ReadS w a1 gs) (h2 : ReadS w a2 gs) (h3 : ReadT w b1 ex) (h4 : ReadT w b2 ex) (hl : gs.length ≤ 1048576) (hm : ex.length ≤ 1048576) :
    Calls Tryd.prog 39 #[.agg #[.int .i64 k, .string nm, .slice a1 gs.length c1, .slice b1 ex.length d1], .agg #[.int .i64 k, .string nm, .slice a2 gs.length c2, .slice b2 ex.length d2]] w fun e w' => e = .returned (.bool true) ∧ Below w.heap.size w w' := by
  have H1 := Lib.hid h1
  have H2 := Lib.hid h2
  have H3 := Lib.hid h3
  have H4 := Lib.hid h4
  clear h1 h2 h3 h4
  have T := Lib.hid (two_new w (.cells #[.int .i64 k, .string nm, .slice a1 gs.length c1, .slice b1 ex.length d1] 34) (.cells #[.int .i64 k, .string nm, .slice a2 gs.length c2, .slice b2 ex.length d2] 34))
  go_enter Tryd.func39, Tryd.ntmps39
  go_wp2_with fail
  refine (l_eqStrs a1 a2 c1 c2 gs _ (H1.out.below T.out.2.2.2) (H2.out.below T.out.2.2.2) (by omega)).mono ?_
  rintro e w1 ⟨rfl, q1⟩
  obtain ⟨t0, t1, tz, tb⟩ := T.out
  rw [tz] at q1
  have p0 := (q1.block _ (by omega)).trans t0
  have p1 := (q1.block _ (by omega)).trans t1
  have z1 := q1.size
  rw [tz] at z1
  have HB1 : Hid (Below w.heap.size w w1) := Lib.hid (tb.trans (q1.mono (by omega)))
  have e0 : w1.cell? ⟨w.heap.size, 3, none⟩ = some (.slice b1 ex.length d1) := (blk p0).1 3 _ rfl
  have e1 : w1.cell? ⟨w.heap.size + 1, 3, none⟩ = some (.slice b2 ex.length d2) := (blk p1).1 3 _ rfl
  clear t0 t1 tz tb p0 p1 q1
  go_wp2_with fail
  refine (l_eqTokS b1 b2 d1 d2 ex _ (H3.out.below HB1.out) (H4.out.below HB1.out) (by omega)).mono ?_
  rintro e w2 ⟨rfl, q2⟩
  have HB2 : Hid (Below w.heap.size w w2) := Lib.hid (HB1.out.trans (q2.mono (by omega)))
  clear q2
  go_wp2
  go_ret
  exact ⟨rfl, HB2.out⟩
end Go.Proofs.YthmllcpldgbbcaaDoor
