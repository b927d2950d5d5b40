/- The laws' own functions on images: the size, the program's image made of the argument, equality. -/
import Derived.Test.YtcflojdkaddemabSymSz
import Derived.Test.YtcflojdkaddemabSymTo
import Derived.Test.YtcflojdkaddemabSymEq
import Derived.Test.YtcflojdkaddemabPlainC
namespace Go.Proofs.Ytcflojdkaddemab
open Go.RowKit Go.Lib

theorem cells2 {w : World} {b : Nat} {x0 x1 : Value} {t : TypeId} (h : w.heap[b]? = some (.cells #[x0, x1] t (0, 0))) : w.cell? ⟨b, 0, none⟩ = some x0 ∧ w.cell? ⟨b, 1, none⟩ = some x1 := ⟨(blk h).1 0 _ rfl, (blk h).1 1 _ rfl⟩
theorem keep2 {w w' : World} {b : Nat} {x0 x1 : Value} (hb : Below w.heap.size w w') (hlt : b < w.heap.size) (h : w.cell? ⟨b, 0, none⟩ = some x0 ∧ w.cell? ⟨b, 1, none⟩ = some x1) : w'.cell? ⟨b, 0, none⟩ = some x0 ∧ w'.cell? ⟨b, 1, none⟩ = some x1 :=
  ⟨(hb.cell (p := ⟨b, 0, none⟩) hlt).trans h.1, (hb.cell (p := ⟨b, 1, none⟩) hlt).trans h.2⟩
/-- The measure of an image: -1, or all is small. -/
def SzImg (c : ByteArray) (l : List SyL) (left : Int) (w : World) (e : Ending) (w' : World) : Prop :=
  ∃ r : Int, e = .returned (.int .i64 r) ∧ Below w.heap.size w w' ∧ (r = -1 ∨ (0 ≤ r ∧ (c.size : Int) + ((l.length : Int) + (sumSy l : Int)) ≤ left))
set_option maxRecDepth 100000 in
set_option maxHeartbeats 1000000 in
theorem l_szImage (c : ByteArray) (a : Option Addr) (cap : Nat) (l : List SyL) (left : Int) (w : World) (hc : c.size ≤ maxLen) (hm : l.length ≤ maxLen) (ha : ArgSy w a l) (h0 : 0 ≤ left) (h1 : left ≤ 1048576) :
    Calls Try.prog 26 #[.agg #[.string c, .slice a l.length cap], .int .i64 left] w (SzImg c l left w) := by
  have HA := Lib.hid ha
  have HM := Lib.hid hm
  clear ha hm
  unfold maxLen at hc
  by_cases hbig : left < (c.size : Int)
  · have hd : decide (left - (c.size : Int) < 0) = true := by simp; omega
    go_enter Try.func26, Try.ntmps26
    go_wp2
    go_ret
    exact ⟨-1, rfl, (Below.refl _ _).alloc (Nat.le_refl _) _, .inl rfl⟩
  have hd : decide (left - (c.size : Int) < 0) = false := by simp; omega
  obtain ⟨r0, hr0⟩ : ∃ r : Int, left - (c.size : Int) = r := ⟨_, rfl⟩
  have q0 : 0 ≤ r0 := by omega
  have q1 : r0 ≤ 1048576 := by omega
  have HR0 : Hid (r0 + (c.size : Int) = left) := Lib.hid (by omega)
  rw [hr0] at hd
  have HAb := Lib.hid (HA.out.below ((Below.refl w.heap.size w).alloc (Nat.le_refl _) (.cells #[.string c, .slice a l.length cap] 59)))
  go_enter Try.func26, Try.ntmps26
  go_wp2_with fail
  clear hr0
  refine (l_szSymbolS a cap l r0 _ HM.out HAb.out q0 q1).mono ?_
  rintro e w2 ⟨r2, rfl, b2, hr2⟩
  have HB2 := Lib.hid b2
  clear b2
  rcases hr2 with rfl | ⟨s0, s1⟩
  · go_wp2
    go_ret
    exact ⟨-1, rfl, ((Below.refl _ _).alloc (Nat.le_refl _) _).trans (HB2.out.mono (by simp)), .inl rfl⟩
  have hd2 : decide (r2 < 0) = false := by simp; omega
  go_wp2
  go_ret
  exact ⟨r2, rfl, ((Below.refl _ _).alloc (Nat.le_refl _) _).trans (HB2.out.mono (by simp)), .inr ⟨s0, by have := HR0.out; omega⟩⟩

/-- An image that a call has made. -/
def ImgRes (T B : Nat) (c : ByteArray) (l : List SyL) (w : World) (e : Ending) (w' : World) : Prop :=
  ∃ v, e = .returned (.agg #[.string c, v]) ∧ w'.ownsRow B T 3 v l.length (sysV l) ∧ Below w.heap.size w w'
set_option maxRecDepth 100000 in
set_option maxHeartbeats 1000000 in
theorem l_toImage (c : ByteArray) (a : Option Addr) (cap : Nat) (l : List SyL) (w : World) (hl : l.length ≤ 1048576) (ha : ArgSy w a l) :
    Calls Try.prog 31 #[.agg #[.string c, .slice a l.length cap]] w (ImgRes 54 w.heap.size c l w) := by
  have HA := Lib.hid ha
  clear ha
  have T3 := Lib.hid (three_new w (.cells #[.string c, .slice a l.length cap] 59) (.cells #[.string ⟨#[]⟩, .slice none 0 0] 52) (.cells #[.string c, .slice none 0 0] 52))
  go_enter Try.func31, Try.ntmps31
  go_wp2_with fail
  refine (l_toSymbolS a cap l _ hl (HA.out.below T3.out.2.2.2.2)).mono ?_
  rintro e w1 ⟨va, rfl, O1, b1⟩
  obtain ⟨av, cv, rfl⟩ := owns3_shape O1
  obtain ⟨t0, t1, t2, tz, tb⟩ := T3.out
  rw [tz] at O1 b1
  have p1 := (b1.block _ (by omega)).trans t1
  have p2 := (b1.block _ (by omega)).trans t2
  have z1 := b1.size
  rw [tz] at z1
  have HB1 : Hid (Below w.heap.size w w1) := Lib.hid (tb.trans (b1.mono (by omega)))
  have HO1 := Lib.hid O1
  have c20 : w1.cell? ⟨w.heap.size + 1 + 1, 0, none⟩ = some (.string c) := (blk p2).1 0 _ rfl
  have c21 : w1.cell? ⟨w.heap.size + 1 + 1, 1, none⟩ = some (.slice none 0 0) := (blk p2).1 1 _ rfl
  have g2 := (blk p2).2.1 1
  have d0 : w1.cell? ⟨w.heap.size + 1, 0, none⟩ = some (.string ⟨#[]⟩) := (blk p1).1 0 _ rfl
  have d1 : w1.cell? ⟨w.heap.size + 1, 1, none⟩ = some (.slice none 0 0) := (blk p1).1 1 _ rfl
  have g10 := (blk p1).2.1 0
  have g11 := (blk p1).2.1 1
  have m2 := (blk p2).2.2
  have m1 := (blk p1).2.2
  clear t0 t1 t2 tz tb p1 p2 O1 b1
  go_wp2
  refine bodyPost_ret (v := .agg #[.string c, .slice av l.length cv]) (by simp [results, Try.results31, go_sem, d0, d1, m1, m2, c20, c21]) rfl ⟨.slice av l.length cv, rfl, ?_, ?_⟩
  · exact owns_lo (owns_set (owns_set (owns_set HO1.out (by omega)) (by omega)) (by omega)) (by omega)
  · exact ((HB1.out.setCell (by simp; omega) _).setCell (by simp) _).setCell (by simp) _

set_option maxRecDepth 100000 in
set_option maxHeartbeats 1000000 in
theorem l_eqImage (c : ByteArray) (l : List SyL) (a1 a2 : Option Addr) (c1 c2 : Nat) (w : World) (h1 : ReadSy w a1 l) (h2 : ReadSy w a2 l) (hl : l.length ≤ 1048576) :
    Calls Try.prog 39 #[.agg #[.string c, .slice a1 l.length c1], .agg #[.string c, .slice a2 l.length c2]] w fun e w' => e = .returned (.bool true) ∧ Below w.heap.size w w' := by
  have H1 := Lib.hid h1
  have H2 := Lib.hid h2
  clear h1 h2
  have T := Lib.hid (two_new w (.cells #[.string c, .slice a1 l.length c1] 52) (.cells #[.string c, .slice a2 l.length c2] 52))
  go_enter Try.func39, Try.ntmps39
  go_wp2_with fail
  refine (l_eqSymbolS a1 a2 c1 c2 l _ (H1.out.below T.out.2.2.2) (H2.out.below T.out.2.2.2) (by omega)).mono ?_
  rintro e w1 ⟨rfl, q1⟩
  have HB1 : Hid (Below w.heap.size w w1) := Lib.hid (T.out.2.2.2.trans (q1.mono (by have := T.out.2.2.1; omega)))
  clear q1
  go_wp2
  go_ret
  exact ⟨rfl, HB1.out⟩
end Go.Proofs.Ytcflojdkaddemab
