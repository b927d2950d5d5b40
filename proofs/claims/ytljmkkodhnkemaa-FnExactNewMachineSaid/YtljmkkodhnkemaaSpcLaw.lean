/- The laws' own functions on spaces: the size, the program's space made of the argument, equality. -/
import Derived.Test.YtljmkkodhnkemaaImgsW
import Derived.Test.YtljmkkodhnkemaaIntsLaw
import Derived.Test.YtljmkkodhnkemaaEqInts
namespace Go.Proofs.Ytljmkkodhnkemaa
open Go.RowKit Go.Lib

theorem MadeG.set {TS B c j : Nat} {w : World} {X : List ImA} {v : Value} (h : MadeG TS B w X) (hc : c < B) : MadeG TS B (w.setCell ⟨c, j, none⟩ v) X := fun x hx => owns_set (h x hx) hc
theorem MadeG.lo {TS B B' : Nat} {w : World} {X : List ImA} (h : MadeG TS B w X) (hb : B' ≤ B) : MadeG TS B' w X := fun x hx => owns_lo (h x hx) hb
theorem cells3s {w : World} {b : Nat} {x0 x1 x2 : Value} {t : TypeId} (h : w.heap[b]? = some (.cells #[x0, x1, x2] t (0, 0))) : w.cell? ⟨b, 0, none⟩ = some x0 ∧ w.cell? ⟨b, 1, none⟩ = some x1 ∧ w.cell? ⟨b, 2, none⟩ = some x2 := ⟨(blk h).1 0 _ rfl, (blk h).1 1 _ rfl, (blk h).1 2 _ rfl⟩
/-- A space that came in. -/
def ArgSp (w : World) (a0 : Option Addr) (I : List ImA) (a1 : Option Addr) (B : List Int) (a2 : Option Addr) (E : List Int) : Prop := ArgIms w a0 I ∧ ArgIn w a1 B ∧ ArgIn w a2 E
theorem ArgSp.below {w w' : World} {a0 a1 a2 : Option Addr} {I : List ImA} {B E : List Int} (h : ArgSp w a0 I a1 B a2 E) (hb : Below w.heap.size w w') : ArgSp w' a0 I a1 B a2 E := ⟨h.1.below hb, h.2.1.below hb, h.2.2.below hb⟩
/-- What a call may read of a space. -/
def ReadSp (w : World) (a0 : Option Addr) (I : List ImA) (a1 : Option Addr) (B : List Int) (a2 : Option Addr) (E : List Int) : Prop := ReadIms w a0 I ∧ ReadI w a1 B ∧ ReadI w a2 E
theorem ReadSp.below {w w' : World} {a0 a1 a2 : Option Addr} {I : List ImA} {B E : List Int} (h : ReadSp w a0 I a1 B a2 E) (hb : Below w.heap.size w w') : ReadSp w' a0 I a1 B a2 E := ⟨h.1.below hb, h.2.1.below hb, h.2.2.below hb⟩

set_option maxRecDepth 100000 in
set_option maxHeartbeats 1000000 in
theorem l_szSpace (a0 a1 a2 : Option Addr) (c0 c1 c2 : Nat) (I : List ImA) (B E : List Int) (left : Int) (w : World) (hI : I.length ≤ maxLen) (hB : B.length ≤ maxLen) (hE : E.length ≤ maxLen) (ha : ArgSp w a0 I a1 B a2 E) (h0 : 0 ≤ left) (h1 : left ≤ 1048576) :
    Calls Try.prog 10 #[.agg #[.slice a0 I.length c0, .slice a1 B.length c1, .slice a2 E.length c2], .int .i64 left] w fun e w' => ∃ r : Int, e = .returned (.int .i64 r) ∧ Below w.heap.size w w' ∧ (r = -1 ∨ (0 ≤ r ∧ ((I.length : Int) ≤ left ∧ ∀ x ∈ I, SmallI x) ∧ (B.length : Int) ≤ left ∧ (E.length : Int) ≤ left)) := by
  have T0 := Lib.hid (heap_alloc_new w (.cells #[.slice a0 I.length c0, .slice a1 B.length c1, .slice a2 E.length c2] 33))
  have TB := Lib.hid ((Below.refl w.heap.size w).alloc (Nat.le_refl _) (.cells #[.slice a0 I.length c0, .slice a1 B.length c1, .slice a2 E.length c2] 33))
  have SI := Lib.hid (l_szImageS a0 c0 I left _ hI (ha.1.below TB.out) h0 h1)
  clear ha
  go_enter Try.func10, Try.ntmps10
  go_wp2_with fail
  refine SI.out.mono ?_
  rintro e w1 ⟨r1, rfl, b1, hr1⟩
  have tz : (w.alloc (.cells #[.slice a0 I.length c0, .slice a1 B.length c1, .slice a2 E.length c2] 33)).heap.size = w.heap.size + 1 := by simp
  have z1 := b1.size
  rw [tz] at z1 b1
  have P1 := Lib.hid ((b1.block _ (by omega)).trans T0.out)
  have HB1 : Hid (Below w.heap.size w w1) := Lib.hid (TB.out.trans (b1.mono (by omega)))
  clear tz b1 T0 TB SI
  rcases hr1 with rfl | ⟨p0, p1, p2, p3⟩
  · go_wp2
    go_ret
    exact ⟨-1, rfl, HB1.out, .inl rfl⟩
  have HS := Lib.hid p3
  clear p3
  have hd : decide (r1 < 0) = false := by simp; omega
  obtain ⟨e0, e1, e2⟩ := cells3s P1.out
  go_wp2_with fail
  refine (l_szIntS a1 c1 B.length r1 _ (by omega) (by omega) hB).mono ?_
  rintro e w2 ⟨r2, rfl, rfl, hr2⟩
  rcases hr2 with rfl | ⟨q0, q1⟩
  · go_wp2
    go_ret
    exact ⟨-1, rfl, HB1.out, .inl rfl⟩
  have hd2 : decide (r2 < 0) = false := by simp; omega
  go_wp2_with fail
  refine (l_szIntS a2 c2 E.length r2 _ (by omega) (by omega) hE).mono ?_
  rintro e w2 ⟨r3, rfl, rfl, hr3⟩
  rcases hr3 with rfl | ⟨s0, s1⟩
  · go_wp2
    go_ret
    exact ⟨-1, rfl, HB1.out, .inl rfl⟩
  have hd3 : decide (r3 < 0) = false := by simp; omega
  go_wp2
  go_ret
  exact ⟨r3, rfl, HB1.out, .inr ⟨s0, ⟨p2, HS.out⟩, by omega, by omega⟩⟩

/-- A space that a call has made. -/
def SpcRes (TI TS TN B0 : Nat) (ps : List (ByteArray × List SyL)) (B E : List Int) (w : World) (e : Ending) (w' : World) : Prop :=
  ∃ v0 X v1 v2, e = .returned (.agg #[v0, v1, v2]) ∧ w'.ownsRow B0 TI 2 v0 X.length (imsV X) ∧ MadeG TS B0 w' X ∧ psI X = ps ∧ w'.ownsRow B0 TN 1 v1 B.length (intV B) ∧ w'.ownsRow B0 TN 1 v2 E.length (intV E) ∧ Below w.heap.size w w'
set_option maxRecDepth 100000 in
set_option maxHeartbeats 2000000 in
theorem l_toSpace (a0 a1 a2 : Option Addr) (c0 c1 c2 : Nat) (I : List ImA) (B E : List Int) (w : World) (hI : I.length ≤ 1048576) (hB : B.length ≤ 1048576) (hE : E.length ≤ 1048576) (ha : ArgSp w a0 I a1 B a2 E) (hs : ∀ x ∈ I, SmallI x) :
    Calls Try.prog 12 #[.agg #[.slice a0 I.length c0, .slice a1 B.length c1, .slice a2 E.length c2]] w (SpcRes 61 66 3 w.heap.size (psI I) B E w) := by
  have HA := Lib.hid ha
  have HS := Lib.hid hs
  clear ha hs
  have T3 := Lib.hid (three_new w (.cells #[.slice a0 I.length c0, .slice a1 B.length c1, .slice a2 E.length c2] 33) (.cells #[.slice none 0 0, .slice none 0 0, .slice none 0 0] 39) (.cells #[.slice none 0 0, .slice none 0 0, .slice none 0 0] 39))
  go_enter Try.func12, Try.ntmps12
  go_wp2_with fail
  refine (l_toImageS a0 c0 I _ hI (HA.out.1.below T3.out.2.2.2.2) HS.out).mono ?_
  rintro e w1 ⟨v0, X, rfl, O0, M0, p0, b1⟩
  obtain ⟨x0, y0, rfl⟩ := owns3_shape O0
  obtain ⟨t0, t1, t2, tz, tb⟩ := T3.out
  rw [tz] at O0 M0 b1
  have HP0 := Lib.hid ((b1.block _ (by omega)).trans t0)
  have HP1 := Lib.hid ((b1.block _ (by omega)).trans t1)
  have HP2 := Lib.hid ((b1.block _ (by omega)).trans t2)
  have z1 := b1.size
  rw [tz] at z1
  have HB1 : Hid (Below w.heap.size w w1) := Lib.hid (tb.trans (b1.mono (by omega)))
  have HO0 := Lib.hid O0
  have HM0 := Lib.hid M0
  have HPS := Lib.hid p0
  have e1 : w1.cell? ⟨w.heap.size, 1, none⟩ = some (.slice a1 B.length c1) := (blk HP0.out).1 1 _ rfl
  have e2 : w1.cell? ⟨w.heap.size + 1 + 1, 0, none⟩ = some (.slice none 0 0) := (blk HP2.out).1 0 _ rfl
  have f2 := (blk HP2.out).2.1 0
  have l2 := (blk HP2.out).2.2
  have HB2 : Hid (Below w.heap.size w (w1.setCell ⟨w.heap.size + 1 + 1, 0, none⟩ (.slice x0 X.length y0))) := Lib.hid (HB1.out.setCell (by simp; omega) _)
  clear t0 t1 t2 tz tb O0 M0 p0 b1
  go_wp2_with fail
  refine (l_toIntS a1 c1 B _ hB (HA.out.2.1.below HB2.out)).mono ?_
  rintro e w2 ⟨v1, rfl, O1, b2⟩
  obtain ⟨x1, y1, rfl⟩ := owns_shape O1
  have sz : (w1.setCell ⟨w.heap.size + 1 + 1, 0, none⟩ (.slice x0 X.length y0)).heap.size = w1.heap.size := by simp [World.setCell]
  have QP0 := Lib.hid ((b2.block _ (by rw [sz]; omega)).trans ((set_other (by omega)).trans HP0.out))
  have QP1 := Lib.hid ((b2.block _ (by rw [sz]; omega)).trans ((set_other (by omega)).trans HP1.out))
  have QP2 := Lib.hid ((b2.block _ (by rw [sz]; omega)).trans (heap_setCell_at HP2.out (.slice x0 X.length y0)))
  have z2 := b2.size
  rw [sz] at z2
  have HB3 : Hid (Below w.heap.size w w2) := Lib.hid (HB2.out.trans (b2.mono (by rw [sz]; omega)))
  have HO0' := Lib.hid (owns3_below (owns_set HO0.out (by omega)) b2)
  have HM0' := Lib.hid ((HM0.out.set (by omega)).below b2)
  rw [sz] at O1
  have HO1 := Lib.hid O1
  clear e1 e2 f2 l2 sz O1 b2 HP0 HP1 HP2 HO0 HM0 HB1 HB2
  have e1 : w2.cell? ⟨w.heap.size, 2, none⟩ = some (.slice a2 E.length c2) := (blk QP0.out).1 2 _ rfl
  have e2 : w2.cell? ⟨w.heap.size + 1 + 1, 1, none⟩ = some (.slice none 0 0) := (blk QP2.out).1 1 _ rfl
  have f2 := (blk QP2.out).2.1 1
  have l2 := (blk QP2.out).2.2
  have HB2 : Hid (Below w.heap.size w (w2.setCell ⟨w.heap.size + 1 + 1, 1, none⟩ (.slice x1 B.length y1))) := Lib.hid (HB3.out.setCell (by simp; omega) _)
  go_wp2_with fail
  refine (l_toIntS a2 c2 E _ hE (HA.out.2.2.below HB2.out)).mono ?_
  rintro e w3 ⟨v2, rfl, O2, b3⟩
  obtain ⟨x2, y2, rfl⟩ := owns_shape O2
  have sz : (w2.setCell ⟨w.heap.size + 1 + 1, 1, none⟩ (.slice x1 B.length y1)).heap.size = w2.heap.size := by simp [World.setCell]
  have R1 := Lib.hid ((b3.block _ (by rw [sz]; omega)).trans ((set_other (by omega)).trans QP1.out))
  have R2 := Lib.hid ((b3.block _ (by rw [sz]; omega)).trans (heap_setCell_at QP2.out (.slice x1 B.length y1)))
  have z3 := b3.size
  rw [sz] at z3
  have HB4 : Hid (Below w.heap.size w w3) := Lib.hid (HB2.out.trans (b3.mono (by rw [sz]; omega)))
  have HO0 := Lib.hid (owns3_below (owns_set HO0'.out (by omega)) b3)
  have HM0 := Lib.hid ((HM0'.out.set (by omega)).below b3)
  have HO1' := Lib.hid (owns_below (owns_set HO1.out (by omega)) b3)
  rw [sz] at O2
  have HO2 := Lib.hid O2
  clear e1 e2 f2 l2 sz O2 b3 QP0 QP1 QP2 HO0' HM0' HO1 HB2 HB3
  obtain ⟨c20, c21, c22⟩ := cells3s R2.out
  obtain ⟨d0, d1, d2⟩ := cells3s R1.out
  have g20 := (blk R2.out).2.1 0
  have g21 := (blk R2.out).2.1 1
  have g22 := (blk R2.out).2.1 2
  have g10 := (blk R1.out).2.1 0
  have g11 := (blk R1.out).2.1 1
  have g12 := (blk R1.out).2.1 2
  have m2 := (blk R2.out).2.2
  have m1 := (blk R1.out).2.2
  go_wp2
  refine bodyPost_ret (v := .agg #[.slice x0 X.length y0, .slice x1 B.length y1, .slice x2 E.length y2]) (by simp [results, Try.results12, go_sem, d0, d1, d2, m1, m2, c20, c21, c22]) rfl ⟨.slice x0 X.length y0, X, .slice x1 B.length y1, .slice x2 E.length y2, rfl, ?_, ?_, HPS.out, ?_, ?_, ?_⟩
  · exact owns_lo (owns_set (owns_set (owns_set (owns_set HO0.out (by omega)) (by omega)) (by omega)) (by omega)) (by omega)
  · exact (((((HM0.out.set (by omega)).set (by omega)).set (by omega)).set (by omega))).lo (by omega)
  · exact owns_lo (owns_set (owns_set (owns_set (owns_set HO1'.out (by omega)) (by omega)) (by omega)) (by omega)) (by omega)
  · exact owns_lo (owns_set (owns_set (owns_set (owns_set HO2.out (by omega)) (by omega)) (by omega)) (by omega)) (by omega)
  · exact (((HB4.out.setCell (by simp; omega) _).setCell (by simp) _).setCell (by simp) _).setCell (by simp) _

theorem readSp_of {TI TS TN B0 B1 B2 B3 x0 : Nat} {w : World} {a0 a1 a2 : Option Addr} {c0 c1 c2 : Nat} {X : List ImA} {B E : List Int} (h0 : w.ownsRow B0 TI 2 (.slice a0 X.length c0) X.length (imsV X)) (hm : MadeG TS x0 w X) (h1 : w.ownsRow B1 TN 1 (.slice a1 B.length c1) B.length (intV B)) (h2 : w.ownsRow B2 B3 1 (.slice a2 E.length c2) E.length (intV E)) : ReadSp w a0 X a1 B a2 E :=
  ⟨readIms_of h0 hm, readI_of h1, readI_of h2⟩
set_option maxRecDepth 100000 in
set_option maxHeartbeats 1000000 in
theorem l_eqSpace (a0 a1 a2 b0 b1 b2 : Option Addr) (c0 c1 c2 d0 d1 d2 : Nat) (X Y : List ImA) (B E : List Int) (w : World) (h1 : ReadSp w a0 X a1 B a2 E) (h2 : ReadSp w b0 Y b1 B b2 E) (hxy : psI X = psI Y) (hX : X.length ≤ 1048576) (hB : B.length ≤ 1048576) (hE : E.length ≤ 1048576) (hz : ∀ x ∈ X, SmallI x) :
    Calls Try.prog 14 #[.agg #[.slice a0 X.length c0, .slice a1 B.length c1, .slice a2 E.length c2], .agg #[.slice b0 Y.length d0, .slice b1 B.length d1, .slice b2 E.length d2]] w fun e w' => e = .returned (.bool true) ∧ Below w.heap.size w w' := by
  have T := Lib.hid (two_new w (.cells #[.slice a0 X.length c0, .slice a1 B.length c1, .slice a2 E.length c2] 39) (.cells #[.slice b0 Y.length d0, .slice b1 B.length d1, .slice b2 E.length d2] 39))
  have EI := Lib.hid (fun W h1 h2 => l_eqImageS a0 b0 c0 d0 X Y W h1 h2 hxy hX hz)
  have H1 := Lib.hid h1
  have H2 := Lib.hid h2
  clear h1 h2 hxy hz
  go_enter Try.func14, Try.ntmps14
  go_wp2_with fail
  refine (EI.out _ (H1.out.1.below T.out.2.2.2) (H2.out.1.below T.out.2.2.2)).mono ?_
  rintro e w1 ⟨rfl, q1⟩
  have tz := T.out.2.2.1
  have P0 := Lib.hid ((q1.block _ (by omega)).trans T.out.1)
  have P1 := Lib.hid ((q1.block _ (by omega)).trans T.out.2.1)
  have z1 := q1.size
  rw [tz] at z1
  have HB1 : Hid (Below w.heap.size w w1) := Lib.hid (T.out.2.2.2.trans (q1.mono (by omega)))
  clear q1 tz T EI
  obtain ⟨e0, e1, e2⟩ := cells3s P0.out
  obtain ⟨f0, f1, f2⟩ := cells3s P1.out
  go_wp2_with fail
  refine (l_eqInts a1 b1 c1 d1 B _ (H1.out.2.1.below HB1.out) (H2.out.2.1.below HB1.out) hB).mono ?_
  rintro e w2 ⟨rfl, q2⟩
  have z2 := q2.size
  have P20 := Lib.hid ((q2.block _ (by omega)).trans P0.out)
  have P21 := Lib.hid ((q2.block _ (by omega)).trans P1.out)
  have HB2 : Hid (Below w.heap.size w w2) := Lib.hid (HB1.out.trans (q2.mono (by omega)))
  clear q2 e0 e1 e2 f0 f1 f2 P0 P1
  obtain ⟨e0, e1, e2⟩ := cells3s P20.out
  obtain ⟨f0, f1, f2⟩ := cells3s P21.out
  go_wp2_with fail
  refine (l_eqInts a2 b2 c2 d2 E _ (H1.out.2.2.below HB2.out) (H2.out.2.2.below HB2.out) hE).mono ?_
  rintro e w3 ⟨rfl, q3⟩
  have HB3 : Hid (Below w.heap.size w w3) := Lib.hid (HB2.out.trans (q3.mono (by omega)))
  clear q3
  go_wp2
  go_ret
  exact ⟨rfl, HB3.out⟩
end Go.Proofs.Ytljmkkodhnkemaa
