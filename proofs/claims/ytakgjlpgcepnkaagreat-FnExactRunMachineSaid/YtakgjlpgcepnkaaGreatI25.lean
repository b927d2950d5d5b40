/- The laws' own functions on machines: the size, the program's machine made of the argument, equality; The laws' own functions on rows of ints: equality, marks; Marks of machines, and what they hold; What marks may turn: only the shape matters; Marks of machines by shape; How long a machine's rows are behind a step; Machines as arguments of a law; The laws' own functions on one token: its size, and the program's token made of it; The laws' own functions on rows of symbols: the size, and the program's row made of it. -/
import Derived.Test.YtakgjlpgcepnkaaGreatI07
import Derived.Test.YtakgjlpgcepnkaaGreatI24
import Derived.Test.YtakgjlpgcepnkaaGreatRows
import Derived.Test.YtakgjlpgcepnkaaGreatI00
import Derived.Test.YtakgjlpgcepnkaaGreatI02
import Derived.Deep.Cut
import Derived.Outline
import Derived.Lib.Hide
import Derived.Deep.QuietTactic
import Derived.BigQuiet
import Derived.WalkSmall
import Derived.Lib.SmallJoins
import Derived.OpenShut
import Derived.Below
import Derived.Laws.MakeOwn
/-! The laws' own functions on machines: the size, the program's machine made of the argument, equality -/
namespace Go.Proofs.YtakgjlpgcepnkaaGreat
open Go.RowKit Go.Lib

/-- A machine that came in. -/
def ArgM (w : World) (a0 a1 : Option Addr) (m : McL) : Prop := ArgIn w a0 m.st ∧ ArgIn w a1 m.out
theorem ArgM.below {w w' : World} {a0 a1 : Option Addr} {m : McL} (h : ArgM w a0 a1 m) (hb : Below w.heap.size w w') : ArgM w' a0 a1 m := ⟨h.1.below hb, h.2.below hb⟩
theorem three_newM (w : World) (o1 o2 o3 : Obj) : (((w.alloc o1).alloc o2).alloc o3).heap[w.heap.size]? = some o1 ∧ (((w.alloc o1).alloc o2).alloc o3).heap[w.heap.size + 1]? = some o2 ∧ (((w.alloc o1).alloc o2).alloc o3).heap[w.heap.size + 2]? = some o3 ∧ (((w.alloc o1).alloc o2).alloc o3).heap.size = w.heap.size + 3 ∧ Below w.heap.size w (((w.alloc o1).alloc o2).alloc o3) := by
  obtain ⟨t1, t2, t3, t4⟩ := two_new w o1 o2
  have z : ((w.alloc o1).alloc o2).heap.size = w.heap.size + 2 := t3
  refine ⟨(Below.heap_alloc _ _ _ (by omega)).trans t1, (Below.heap_alloc _ _ _ (by omega)).trans t2, ?_, by simp, t4.alloc (by omega) _⟩
  rw [← z]
  exact heap_alloc_new _ o3
set_option maxRecDepth 100000 in
set_option maxHeartbeats 1000000 in
theorem l_szMachine (m : McL) (a0 a1 : Option Addr) (c0 c1 : Nat) (left : Int) (w : World) (h1 : m.st.length ≤ maxLen) (h2 : m.out.length ≤ maxLen) (h0 : 0 ≤ left) (hl : left ≤ 1048576) :
    Calls Tryz.prog 6 #[mcA m (.slice a0 m.st.length c0) (.slice a1 m.out.length c1), .int .i64 left] w fun e w' => ∃ r : Int, e = .returned (.int .i64 r) ∧ Below w.heap.size w w' ∧ (r = -1 ∨ (0 ≤ r ∧ r + (m.st.length : Int) + (m.out.length : Int) ≤ left)) := by
  obtain ⟨pc, sp, fp, st, out, stt, val⟩ := m
  unfold mcA mcRow
  dsimp only at h1 h2 ⊢
  obtain ⟨sn, hsn⟩ : ∃ x, st.length = x := ⟨_, rfl⟩
  obtain ⟨on, hon⟩ : ∃ x, out.length = x := ⟨_, rfl⟩
  rw [hsn] at h1 ⊢
  rw [hon] at h2 ⊢
  clear hsn hon
  have HB : Hid (Below w.heap.size w (w.alloc (.cells #[.int .i64 pc, .int .i64 sp, .int .i64 fp, .slice a0 sn c0, .slice a1 on c1, .int .i64 stt, .int .i64 val] 27))) := Lib.hid ((Below.refl _ _).alloc (Nat.le_refl _) _)
  go_enter Tryz.func6, Tryz.ntmps6
  go_wp2_with fail
  refine (l_szIntS a0 c0 sn left _ h0 hl h1).mono ?_
  rintro e w2 ⟨r2, rfl, rfl, hr2⟩
  rcases hr2 with rfl | ⟨q0, q1⟩
  · go_wp2
    go_ret
    exact ⟨-1, rfl, HB.out, .inl rfl⟩
  have hd2 : decide (r2 < 0) = false := by simp; omega
  go_wp2_with fail
  refine (l_szIntS a1 c1 on r2 _ q0 (by omega) h2).mono ?_
  rintro e w2 ⟨r3, rfl, rfl, hr3⟩
  rcases hr3 with rfl | ⟨s0, s1⟩
  · go_wp2
    go_ret
    exact ⟨-1, rfl, HB.out, .inl rfl⟩
  have hd3 : decide (r3 < 0) = false := by simp; omega
  go_wp2
  go_ret
  exact ⟨r3, rfl, HB.out, .inr ⟨s0, by omega⟩⟩
/-- A machine that a call has made. -/
def MaRes (m : McL) (w : World) (e : Ending) (w' : World) : Prop := ∃ v1 v2, e = .returned (mcA m v1 v2) ∧ w'.ownsRow w.heap.size 3 1 v1 m.st.length (intV m.st) ∧ w'.ownsRow w.heap.size 3 1 v2 m.out.length (intV m.out) ∧ Ap v1 v2 ∧ Below w.heap.size w w'
set_option maxRecDepth 100000 in
set_option maxHeartbeats 4000000 in
theorem l_toMachine (m : McL) (sa oa : Option Addr) (sc oc : Nat) (w : World) (ha : ArgM w sa oa m) (h1 : m.st.length ≤ 1048576) (h2 : m.out.length ≤ 1048576) : Calls Tryz.prog 9 #[mcA m (.slice sa m.st.length sc) (.slice oa m.out.length oc)] w (MaRes m w) := by
  obtain ⟨pc, sp, fp, st, out, stt, val⟩ := m
  unfold mcA mcRow
  have HA1 := Lib.hid ha.1
  have HA2 := Lib.hid ha.2
  dsimp only at h1 h2 HA1 HA2 ⊢
  have C1 := Lib.hid (fun (W : World) (hb : Below w.heap.size w W) => l_toIntS sa sc st W h1 (HA1.out.below hb))
  have C2 := Lib.hid (fun (W : World) (hb : Below w.heap.size w W) => l_toIntS oa oc out W h2 (HA2.out.below hb))
  obtain ⟨sn, hsn⟩ : ∃ x, st.length = x := ⟨_, rfl⟩
  obtain ⟨on, hon⟩ : ∃ x, out.length = x := ⟨_, rfl⟩
  have HSN := Lib.hid hsn
  have HON := Lib.hid hon
  rw [hsn] at C1 ⊢
  rw [hon] at C2 ⊢
  have T3 := Lib.hid (three_newM w (.cells #[.int .i64 pc, .int .i64 sp, .int .i64 fp, .slice sa sn sc, .slice oa on oc, .int .i64 stt, .int .i64 val] 27) (.cells #[.int .i64 0, .int .i64 0, .int .i64 0, .slice none 0 0, .slice none 0 0, .int .i64 0, .int .i64 0] 30) (.cells #[.int .i64 pc, .int .i64 sp, .int .i64 fp, .slice none 0 0, .slice none 0 0, .int .i64 0, .int .i64 0] 30))
  obtain ⟨W0, hW0⟩ : ∃ W, ((w.alloc (.cells #[.int .i64 pc, .int .i64 sp, .int .i64 fp, .slice sa sn sc, .slice oa on oc, .int .i64 stt, .int .i64 val] 27)).alloc (.cells #[.int .i64 0, .int .i64 0, .int .i64 0, .slice none 0 0, .slice none 0 0, .int .i64 0, .int .i64 0] 30)).alloc (.cells #[.int .i64 pc, .int .i64 sp, .int .i64 fp, .slice none 0 0, .slice none 0 0, .int .i64 0, .int .i64 0] 30) = W := ⟨_, rfl⟩
  rw [hW0] at T3
  have HW0 := Lib.hid hW0
  obtain ⟨P0, P1, P2, hz, HB0⟩ := T3.out
  have HZ0 : Hid (w.heap.size + 3 ≤ W0.heap.size) := Lib.hid (by omega)
  have HP0 := Lib.hid P0
  have HP1 := Lib.hid P1
  have HP2 := Lib.hid P2
  have HBB := Lib.hid HB0
  clear ha hsn hon hW0 T3 P0 P1 P2 hz HB0 h1 h2
  go_enter Tryz.func9, Tryz.ntmps9
  go_upto_region 5 with fail
  rw [HW0.out]
  have q3 : W0.cell? ⟨w.heap.size, 3, none⟩ = some (.slice sa sn sc) := (blk HP0.out).1 3 _ rfl
  go_wp2_with fail
  refine (C1.out _ HBB.out).mono ?_
  rintro e w1 ⟨v1, rfl, O1, b1⟩
  rw [HSN.out] at O1
  obtain ⟨x1, y1, rfl⟩ := owns_shape O1
  have Q0 := Lib.hid ((b1.block _ (blk HP0.out).2.2).trans HP0.out)
  have Q1 := Lib.hid ((b1.block _ (blk HP1.out).2.2).trans HP1.out)
  have Q2 := Lib.hid ((b1.block _ (blk HP2.out).2.2).trans HP2.out)
  have HO1 := Lib.hid O1
  have HB1 : Hid (Below w.heap.size w w1) := Lib.hid (HBB.out.trans (b1.mono (by have := HZ0.out; omega)))
  have HZ1 : Hid (w.heap.size + 3 ≤ w1.heap.size) := Lib.hid (by have := HZ0.out; have := b1.size; omega)
  clear q3 O1 b1
  obtain ⟨⟨j0, j1, j2, j3, j4, j5, j6⟩, gj, lj⟩ := res7 Q2.out
  go_upto_region 6 with fail
  have Q0' : Hid ((w1.setCell ⟨w.heap.size + 1 + 1, 3, none⟩ (.slice x1 sn y1)).heap[w.heap.size]? = _) := Lib.hid ((set_other (by omega)).trans Q0.out)
  have Q1' : Hid ((w1.setCell ⟨w.heap.size + 1 + 1, 3, none⟩ (.slice x1 sn y1)).heap[w.heap.size + 1]? = _) := Lib.hid ((set_other (by omega)).trans Q1.out)
  have Q2' : Hid ((w1.setCell ⟨w.heap.size + 1 + 1, 3, none⟩ (.slice x1 sn y1)).heap[w.heap.size + 1 + 1]? = some (.cells #[.int .i64 pc, .int .i64 sp, .int .i64 fp, .slice x1 sn y1, .slice none 0 0, .int .i64 0, .int .i64 0] 30 (0, 0))) := Lib.hid (heap_setCell_at Q2.out _)
  have HB1' : Hid (Below w.heap.size w (w1.setCell ⟨w.heap.size + 1 + 1, 3, none⟩ (.slice x1 sn y1))) := Lib.hid (HB1.out.setCell (by show w.heap.size ≤ w.heap.size + 1 + 1; omega) _)
  have HO1' : Hid ((w1.setCell ⟨w.heap.size + 1 + 1, 3, none⟩ (.slice x1 sn y1)).ownsRow (w.heap.size + 3) 3 1 (.slice x1 sn y1) sn (intV st)) := Lib.hid (owns_set (owns_lo HO1.out HZ0.out) (by omega))
  have hzz : (w1.setCell ⟨w.heap.size + 1 + 1, 3, none⟩ (.slice x1 sn y1)).heap.size = w1.heap.size := by simp [World.setCell]
  have HZ1' : Hid (w.heap.size + 3 ≤ (w1.setCell ⟨w.heap.size + 1 + 1, 3, none⟩ (.slice x1 sn y1)).heap.size) := Lib.hid (by rw [hzz]; exact HZ1.out)
  obtain ⟨W1, hW1⟩ : ∃ W, w1.setCell ⟨w.heap.size + 1 + 1, 3, none⟩ (.slice x1 sn y1) = W := ⟨_, rfl⟩
  rw [hW1] at Q0' Q1' Q2' HB1' HO1' HZ1'
  rw [hW1]
  clear hW1 hzz j0 j1 j2 j3 j4 j5 j6 gj lj Q0 Q1 Q2 HO1 HB1 HZ1
  have q4 : W1.cell? ⟨w.heap.size, 4, none⟩ = some (.slice oa on oc) := (blk Q0'.out).1 4 _ rfl
  go_wp2_with fail
  refine (C2.out _ HB1'.out).mono ?_
  rintro e w2 ⟨v2, rfl, O2, b2⟩
  rw [HON.out] at O2
  obtain ⟨x2, y2, rfl⟩ := owns_shape O2
  have S0 := Lib.hid ((b2.block _ (blk Q0'.out).2.2).trans Q0'.out)
  have S1 := Lib.hid ((b2.block _ (blk Q1'.out).2.2).trans Q1'.out)
  have S2 := Lib.hid ((b2.block _ (blk Q2'.out).2.2).trans Q2'.out)
  have HAP : Hid (Ap (.slice x1 sn y1) (.slice x2 on y2)) := Lib.hid (fun g e e' => by have h1 := (HO1'.out.lt g e).2; have h2 := (O2.lt g e').1; omega)
  have V1 := Lib.hid (owns_below HO1'.out b2)
  have V2 := Lib.hid (owns_lo O2 HZ1'.out)
  have HB2 : Hid (Below w.heap.size w w2) := Lib.hid (HB1'.out.trans (b2.mono (by have := HZ1'.out; omega)))
  clear q4 O2 b2 Q0' Q1' Q2' HO1' HB1' HZ1'
  obtain ⟨⟨j0, j1, j2, j3, j4, j5, j6⟩, gj, lj⟩ := res7 S2.out
  obtain ⟨⟨i0, i1, i2, i3, i4, i5, i6⟩, gi, li⟩ := res7 S0.out
  go_upto_region 9 with fail
  have X2 : Hid ((((w2.setCell ⟨w.heap.size + 1 + 1, 4, none⟩ (.slice x2 on y2)).setCell ⟨w.heap.size + 1 + 1, 5, none⟩ (.int .i64 stt)).setCell ⟨w.heap.size + 1 + 1, 6, none⟩ (.int .i64 val)).heap[w.heap.size + 1 + 1]? = some (.cells #[.int .i64 pc, .int .i64 sp, .int .i64 fp, .slice x1 sn y1, .slice x2 on y2, .int .i64 stt, .int .i64 val] 30 (0, 0))) := Lib.hid (heap_setCell_at (heap_setCell_at (heap_setCell_at S2.out _) _) _)
  have X1 : Hid ((((w2.setCell ⟨w.heap.size + 1 + 1, 4, none⟩ (.slice x2 on y2)).setCell ⟨w.heap.size + 1 + 1, 5, none⟩ (.int .i64 stt)).setCell ⟨w.heap.size + 1 + 1, 6, none⟩ (.int .i64 val)).heap[w.heap.size + 1]? = some (.cells #[.int .i64 0, .int .i64 0, .int .i64 0, .slice none 0 0, .slice none 0 0, .int .i64 0, .int .i64 0] 30 (0, 0))) := Lib.hid ((set_other (by omega)).trans ((set_other (by omega)).trans ((set_other (by omega)).trans S1.out)))
  have Y1 : Hid ((((w2.setCell ⟨w.heap.size + 1 + 1, 4, none⟩ (.slice x2 on y2)).setCell ⟨w.heap.size + 1 + 1, 5, none⟩ (.int .i64 stt)).setCell ⟨w.heap.size + 1 + 1, 6, none⟩ (.int .i64 val)).ownsRow (w.heap.size + 3) 3 1 (.slice x1 sn y1) sn (intV st)) := Lib.hid (owns_set (owns_set (owns_set V1.out (by omega)) (by omega)) (by omega))
  have Y2 : Hid ((((w2.setCell ⟨w.heap.size + 1 + 1, 4, none⟩ (.slice x2 on y2)).setCell ⟨w.heap.size + 1 + 1, 5, none⟩ (.int .i64 stt)).setCell ⟨w.heap.size + 1 + 1, 6, none⟩ (.int .i64 val)).ownsRow (w.heap.size + 3) 3 1 (.slice x2 on y2) on (intV out)) := Lib.hid (owns_set (owns_set (owns_set V2.out (by omega)) (by omega)) (by omega))
  have HB3 : Hid (Below w.heap.size w (((w2.setCell ⟨w.heap.size + 1 + 1, 4, none⟩ (.slice x2 on y2)).setCell ⟨w.heap.size + 1 + 1, 5, none⟩ (.int .i64 stt)).setCell ⟨w.heap.size + 1 + 1, 6, none⟩ (.int .i64 val))) := Lib.hid (((HB2.out.setCell (by show w.heap.size ≤ w.heap.size + 1 + 1; omega) _).setCell (by show w.heap.size ≤ w.heap.size + 1 + 1; omega) _).setCell (by show w.heap.size ≤ w.heap.size + 1 + 1; omega) _)
  obtain ⟨W3, hW3⟩ : ∃ W, ((w2.setCell ⟨w.heap.size + 1 + 1, 4, none⟩ (.slice x2 on y2)).setCell ⟨w.heap.size + 1 + 1, 5, none⟩ (.int .i64 stt)).setCell ⟨w.heap.size + 1 + 1, 6, none⟩ (.int .i64 val) = W := ⟨_, rfl⟩
  rw [hW3] at X2 X1 Y1 Y2 HB3
  rw [hW3]
  clear hW3 j0 j1 j2 j3 j4 j5 j6 gj lj i0 i1 i2 i3 i4 i5 i6 gi li
  obtain ⟨⟨j0, j1, j2, j3, j4, j5, j6⟩, gj, lj⟩ := res7 X2.out
  obtain ⟨⟨z0, z1, z2, z3, z4, z5, z6⟩, gz, lz⟩ := res7 X1.out
  go_wp2
  refine bodyPost_ret (v := .agg #[.int .i64 pc, .int .i64 sp, .int .i64 fp, .slice x1 sn y1, .slice x2 on y2, .int .i64 stt, .int .i64 val]) (by simp [results, Tryz.results9, go_sem, z0, z1, z2, z3, z4, z5, z6]) rfl ⟨_, _, rfl, ?_, ?_, HAP.out, ?_⟩
  · dsimp only
    rw [HSN.out]
    exact owns_lo (own7s Y1.out (ne_types Y1.out X1.out (by decide))) (by omega)
  · dsimp only
    rw [HON.out]
    exact owns_lo (own7s Y2.out (ne_types Y2.out X1.out (by decide))) (by omega)
  · exact set7_belowS HB3.out (by omega) _ _ _ _ _ _ _
set_option maxRecDepth 100000 in
set_option maxHeartbeats 2000000 in
theorem l_eqMachine (m : McL) (a0 a1 b0 b1 : Option Addr) (c0 c1 d0 d1 : Nat) (w : World) (h1 : ReadI w a0 m.st) (h2 : ReadI w a1 m.out) (h3 : ReadI w b0 m.st) (h4 : ReadI w b1 m.out) (l1 : m.st.length ≤ 2097152) (l2 : m.out.length ≤ 2097152) :
    Calls Tryz.prog 11 #[mcA m (.slice a0 m.st.length c0) (.slice a1 m.out.length c1), mcA m (.slice b0 m.st.length d0) (.slice b1 m.out.length d1)] w fun e w' => e = .returned (.bool true) ∧ Below w.heap.size w w' := by
  obtain ⟨pc, sp, fp, st, out, stt, val⟩ := m
  unfold mcA mcRow
  dsimp only at h1 h2 h3 h4 l1 l2 ⊢
  have E1 := Lib.hid (fun (W : World) (hb : Below w.heap.size w W) => l_eqInts a0 b0 c0 d0 st W (h1.below hb) (h3.below hb) l1)
  have E2 := Lib.hid (fun (W : World) (hb : Below w.heap.size w W) => l_eqInts a1 b1 c1 d1 out W (h2.below hb) (h4.below hb) l2)
  obtain ⟨sn, hsn⟩ : ∃ x, st.length = x := ⟨_, rfl⟩
  obtain ⟨on, hon⟩ : ∃ x, out.length = x := ⟨_, rfl⟩
  rw [hsn] at E1 ⊢
  rw [hon] at E2 ⊢
  have T2 := Lib.hid (two_new w (.cells #[.int .i64 pc, .int .i64 sp, .int .i64 fp, .slice a0 sn c0, .slice a1 on c1, .int .i64 stt, .int .i64 val] 30) (.cells #[.int .i64 pc, .int .i64 sp, .int .i64 fp, .slice b0 sn d0, .slice b1 on d1, .int .i64 stt, .int .i64 val] 30))
  obtain ⟨W0, hW0⟩ : ∃ W, (w.alloc (.cells #[.int .i64 pc, .int .i64 sp, .int .i64 fp, .slice a0 sn c0, .slice a1 on c1, .int .i64 stt, .int .i64 val] 30)).alloc (.cells #[.int .i64 pc, .int .i64 sp, .int .i64 fp, .slice b0 sn d0, .slice b1 on d1, .int .i64 stt, .int .i64 val] 30) = W := ⟨_, rfl⟩
  rw [hW0] at T2
  have HW0 := Lib.hid hW0
  have HZ0 : Hid (w.heap.size + 2 ≤ W0.heap.size) := Lib.hid (by have := T2.out.2.2.1; omega)
  have HP0 := Lib.hid T2.out.1
  have HP1 := Lib.hid T2.out.2.1
  have HBB := Lib.hid T2.out.2.2.2
  clear h1 h2 h3 h4 l1 l2 hsn hon hW0 T2
  go_enter Tryz.func11, Tryz.ntmps11
  go_upto_region 1 with fail
  rw [HW0.out]
  obtain ⟨⟨j0, j1, j2, j3, j4, j5, j6⟩, _, _⟩ := res7 HP0.out
  obtain ⟨⟨i0, i1, i2, i3, i4, i5, i6⟩, _, _⟩ := res7 HP1.out
  go_wp2_with fail
  refine (E1.out _ HBB.out).mono ?_
  rintro e w1 ⟨rfl, b1⟩
  have Q0 := Lib.hid ((b1.block _ (blk HP0.out).2.2).trans HP0.out)
  have Q1 := Lib.hid ((b1.block _ (blk HP1.out).2.2).trans HP1.out)
  have HB1 : Hid (Below w.heap.size w w1) := Lib.hid (HBB.out.trans (b1.mono (by have := HZ0.out; omega)))
  have HZ1 : Hid (w.heap.size + 2 ≤ w1.heap.size) := Lib.hid (by have := HZ0.out; have := b1.size; omega)
  clear b1 j0 j1 j2 j3 j4 j5 j6 i0 i1 i2 i3 i4 i5 i6
  obtain ⟨⟨j0, j1, j2, j3, j4, j5, j6⟩, _, _⟩ := res7 Q0.out
  obtain ⟨⟨i0, i1, i2, i3, i4, i5, i6⟩, _, _⟩ := res7 Q1.out
  go_wp2_with fail
  refine (E2.out _ HB1.out).mono ?_
  rintro e w2 ⟨rfl, b2⟩
  have S0 := Lib.hid ((b2.block _ (blk Q0.out).2.2).trans Q0.out)
  have S1 := Lib.hid ((b2.block _ (blk Q1.out).2.2).trans Q1.out)
  have HB2 : Hid (Below w.heap.size w w2) := Lib.hid (HB1.out.trans (b2.mono (by have := HZ1.out; omega)))
  clear b2 j0 j1 j2 j3 j4 j5 j6 i0 i1 i2 i3 i4 i5 i6
  obtain ⟨⟨j0, j1, j2, j3, j4, j5, j6⟩, _, _⟩ := res7 S0.out
  obtain ⟨⟨i0, i1, i2, i3, i4, i5, i6⟩, _, _⟩ := res7 S1.out
  go_wp2
  go_ret
  exact ⟨rfl, HB2.out⟩
end Go.Proofs.YtakgjlpgcepnkaaGreat

/-! The laws' own functions on rows of ints: equality, marks -/
namespace Go.Proofs.YtakgjlpgcepnkaaGreat
open Go.RowKit Go.Lib

set_option maxHeartbeats 400000 in
theorem l_markInts (a : Option Addr) (c : Nat) (l : List Int) (m B : Nat) (w : World) (hown : w.ownsRow B 3 1 (.slice a l.length c) l.length (intV l)) (hB : B ≤ w.heap.size) (hl : l.length ≤ 2097152) (h1 : m ≤ 2097152) :
    Calls Tryz.prog 33 #[.slice a l.length c, .int .i64 (m : Int)] w fun e w' => e = .returned (.int .i64 ((m + l.length : Nat) : Int)) ∧ w'.ownsRow B 3 1 (.slice a l.length c) l.length (intV (mki m l.length)) ∧ w.grownBy w' (Value.slice a l.length c).ownBlock := by
  have HO := Lib.hid hown
  clear hown
  go_enter Tryz.func33, Tryz.ntmps33
  go_wp2_with fail
  go_loopw [1, 5] (fun x i wr => ∃ k : Nat, k ≤ l.length ∧ i = .int .i64 (k : Int) ∧ x = .int .i64 ((m + k : Nat) : Int) ∧ wr.ownsRow B 3 1 (.slice a l.length c) l.length (intV (halfI m k l)) ∧ w.grownBy wr (Value.slice a l.length c).ownBlock) (fun _ i _ => l.length - (intOf i).toNat)
  case atStart => exact ⟨0, Nat.zero_le _, rfl, rfl, by rw [halfI_zero]; exact HO.out, World.grownBy.refl _ _⟩
  case round =>
    obtain ⟨k, hk, rfl, rfl, hown, hg⟩ := hrel
    have HOW := Lib.hid hown
    have HG := Lib.hid hg
    have hsz := hg.size
    clear hown hg
    by_cases hlt : k < l.length
    · obtain ⟨g, cap, cur, he, hgB, hgw, _⟩ : ∃ g cap cur, Value.slice a l.length c = .slice (some ⟨g, 0, none⟩) l.length cap ∧ B ≤ g ∧ wr.heap[g]? = some (.cells cur 3 (0, 0)) ∧ True := by
        rcases HOW.out.2 with ⟨_, h0⟩ | ⟨g, cap, cur, he, h1, h2, _⟩
        · omega
        · exact ⟨g, cap, cur, he, h1, h2, trivial⟩
      injection he with ha _ hc
      subst ha hc
      clear hgw
      have hcl := HOW.out.cellAt k (by omega)
      have hkh : k < (halfI m k l).length := by rw [halfI_length _ _ _ hk]; exact hlt
      obtain ⟨y, hcell⟩ : ∃ y, wr.cell? ⟨g, k, none⟩ = some (.int .i64 y) := ⟨_, by rw [hcl]; simp [intV, hkh]; rfl⟩
      have hfr := HOW.out.frozenAt k
      have S := HOW.out.stored k (.int .i64 ((m + k : Nat) : Int))
      have HS : Hid ((wr.setCell ⟨g, k, none⟩ (.int .i64 ((m : Int) + (k : Int)))).ownsRow B 3 1 (.slice (some ⟨g, 0, none⟩) l.length c) l.length (intV (halfI m (k + 1) l))) := Lib.hid (by
        have := S.1; rw [halfI_set m k l hlt] at this; rw [← Int.natCast_add]; exact this)
      have HG1 : Hid (w.grownBy (wr.setCell ⟨g, k, none⟩ (.int .i64 ((m : Int) + (k : Int)))) (some g)) := Lib.hid (by have := World.grownBy.trans HG.out S.2; rw [← Int.natCast_add]; exact this)
      have k0 : (0 : Int) ≤ (k : Int) := by omega
      have k1 : (k : Int) < (l.length : Int) := by omega
      clear hcl hkh S
      go_wp2
      go_roundw
      case rel => exact ⟨k + 1, by omega, by go_num, by go_num, HS.out, HG1.out⟩
      case measure => simp [intOf]; omega
    · have hkk : k = l.length := by omega
      subst hkk
      go_wp2
      go_ret
      exact ⟨rfl, by have := HOW.out; rw [halfI_all] at this; exact this, HG.out⟩

set_option maxHeartbeats 400000 in
theorem l_heldInts (a : Option Addr) (c n : Nat) (m : Nat) (w : World) (hr : ReadI w a (mki m n)) (hl : n ≤ 2097152) (h1 : m ≤ 2097152) :
    Calls Tryz.prog 34 #[.slice a n c, .int .i64 (m : Int)] w fun e w' => e = .returned (.int .i64 ((m + n : Nat) : Int)) ∧ w = w' := by
  have HR := Lib.hid hr
  clear hr
  go_enter Tryz.func34, Tryz.ntmps34
  go_wp2_with fail
  go_loop [1, 5] (fun x i => ∃ k : Nat, k ≤ n ∧ i = .int .i64 (k : Int) ∧ x = .int .i64 ((m + k : Nat) : Int)) (fun _ i => n - (intOf i).toNat)
  case atStart => exact ⟨0, Nat.zero_le _, rfl, rfl⟩
  case round =>
    obtain ⟨k, hk, rfl, rfl⟩ := hrel
    by_cases hlt : k < n
    · obtain ⟨g, rfl, _, c1⟩ := HR.out k (by rw [mki_length]; exact hlt)
      rw [mki_get, Int.natCast_add] at c1
      have k0 : (0 : Int) ≤ (k : Int) := by omega
      have k1 : (k : Int) < (n : Int) := by omega
      go_wp2
      go_round
      case rel => exact ⟨k + 1, by omega, by go_num, by go_num⟩
      case measure => simp [intOf]; omega
    · have hkk : k = n := by omega
      subst hkk
      go_wp2
      go_ret
      exact ⟨rfl, rfl⟩
end Go.Proofs.YtakgjlpgcepnkaaGreat

/-! Marks of machines, and what they hold -/
namespace Go.Proofs.YtakgjlpgcepnkaaGreat
open Go.RowKit Go.Lib

/-- Outside lo .. hi nothing has changed. -/
structure Fro (lo hi : Nat) (w w' : World) : Prop where
  os : w'.os = w.os
  tape : w'.tape = w.tape
  output : w'.output = w.output
  size : w.heap.size ≤ w'.heap.size
  block : ∀ k, k < w.heap.size → k < lo ∨ hi ≤ k → w'.heap[k]? = w.heap[k]?
theorem Fro.trans {lo hi : Nat} {w w' w'' : World} (h : Fro lo hi w w') (h' : Fro lo hi w' w'') : Fro lo hi w w'' :=
  ⟨h'.os.trans h.os, h'.tape.trans h.tape, h'.output.trans h.output, Nat.le_trans h.size h'.size, fun k hk ho => (h'.block k (Nat.lt_of_lt_of_le hk h.size) ho).trans (h.block k hk ho)⟩
theorem Fro.below {lo hi : Nat} {w w' : World} (h : Below w.heap.size w w') : Fro lo hi w w' := ⟨h.os, h.tape, h.output, h.size, fun k hk _ => h.block k hk⟩
theorem Fro.grown {lo hi : Nat} {w w' : World} {v : Value} (h : w.grownBy w' v.ownBlock) (hv : ∀ g, v.ownBlock = some g → lo ≤ g ∧ g < hi) : Fro lo hi w w' :=
  ⟨h.os, h.tape, h.output, h.size, fun k hk ho => h.block k hk (fun e => by have := hv k e.symm; omega)⟩
theorem Fro.toBelow {lo hi B : Nat} {w w' : World} (h : Fro lo hi w w') (hB : B ≤ lo) (hs : B ≤ w.heap.size) : Below B w w' := ⟨h.os, h.tape, h.output, h.size, fun k hk => h.block k (by omega) (.inl (by omega))⟩
set_option maxRecDepth 100000 in
set_option maxHeartbeats 2000000 in
theorem l_markMachine (m : McL) (a0 a1 : Option Addr) (c0 c1 k B hi : Nat) (w : World) (O1 : w.ownsRow B 3 1 (.slice a0 m.st.length c0) m.st.length (intV m.st)) (O2 : w.ownsRow B 3 1 (.slice a1 m.out.length c1) m.out.length (intV m.out)) (hap : Ap (.slice a0 m.st.length c0) (.slice a1 m.out.length c1))
    (hB : B ≤ w.heap.size) (hh : hi ≤ w.heap.size) (g1 : ∀ g, (Value.slice a0 m.st.length c0).ownBlock = some g → g < hi) (g2 : ∀ g, (Value.slice a1 m.out.length c1).ownBlock = some g → g < hi) (hk : k + m.st.length ≤ 2097152) (l1 : m.st.length ≤ 2097152) (l2 : m.out.length ≤ 2097152) :
    Calls Tryz.prog 14 #[mcA m (.slice a0 m.st.length c0) (.slice a1 m.out.length c1), .int .i64 (k : Int)] w fun e w' => e = .returned (.int .i64 ((k + m.st.length + m.out.length : Nat) : Int)) ∧ w'.ownsRow B 3 1 (.slice a0 m.st.length c0) m.st.length (intV (mki k m.st.length)) ∧ w'.ownsRow B 3 1 (.slice a1 m.out.length c1) m.out.length (intV (mki (k + m.st.length) m.out.length)) ∧ Fro B hi w w' := by
  obtain ⟨pc, sp, fp, st, out, stt, val⟩ := m
  unfold mcA mcRow
  dsimp only at O1 O2 hap g1 g2 hk l1 l2 ⊢
  have T0 := Lib.hid (heap_alloc_new w (.cells #[.int .i64 pc, .int .i64 sp, .int .i64 fp, .slice a0 st.length c0, .slice a1 out.length c1, .int .i64 stt, .int .i64 val] 30))
  have TB := Lib.hid ((Below.refl w.heap.size w).alloc (Nat.le_refl _) (.cells #[.int .i64 pc, .int .i64 sp, .int .i64 fp, .slice a0 st.length c0, .slice a1 out.length c1, .int .i64 stt, .int .i64 val] 30))
  have tz : (w.alloc (.cells #[.int .i64 pc, .int .i64 sp, .int .i64 fp, .slice a0 st.length c0, .slice a1 out.length c1, .int .i64 stt, .int .i64 val] 30)).heap.size = w.heap.size + 1 := by simp
  have Q1 := Lib.hid (owns_below O1 TB.out)
  have Q2 := Lib.hid (owns_below O2 TB.out)
  have G1 : Hid (∀ g, (Value.slice a0 st.length c0).ownBlock = some g → B ≤ g ∧ g < hi) := Lib.hid (fun g e => ⟨(O1.lt g e).1, g1 g e⟩)
  have G2 : Hid (∀ g, (Value.slice a1 out.length c1).ownBlock = some g → B ≤ g ∧ g < hi) := Lib.hid (fun g e => ⟨(O2.lt g e).1, g2 g e⟩)
  have HAP := Lib.hid hap
  have HH := Lib.hid hh
  have C1 := Lib.hid (l_markInts a0 c0 st k B _ Q1.out (by rw [tz]; omega) (by omega) (by omega))
  have C2 := Lib.hid (fun (W : World) (ho : W.ownsRow B 3 1 (.slice a1 out.length c1) out.length (intV out)) hb => l_markInts a1 c1 out (k + st.length) B W ho hb l2 hk)
  obtain ⟨sn, hsn⟩ : ∃ x, st.length = x := ⟨_, rfl⟩
  obtain ⟨on, hon⟩ : ∃ x, out.length = x := ⟨_, rfl⟩
  rw [hsn] at T0 TB tz Q1 Q2 G1 HAP C1 C2 hk ⊢
  rw [hon] at T0 TB tz Q1 Q2 G2 HAP C1 C2 ⊢
  clear O1 O2 hap g1 g2 hh hsn hon l1 l2
  go_enter Tryz.func14, Tryz.ntmps14
  go_wp2_with fail
  refine C1.out.mono ?_
  rintro e w1 ⟨rfl, N1, b1⟩
  have F1 : Hid (Fro B hi w w1) := Lib.hid ((Fro.below TB.out).trans (Fro.grown b1 G1.out))
  have P1 := Lib.hid ((b1.block w.heap.size (by rw [tz]; omega) (fun e => by have h := (G1.out _ e.symm).2; have := HH.out; omega)).trans T0.out)
  have R1 := Lib.hid N1
  have R2 := Lib.hid (Q2.out.kept b1 (by
    cases h : (Value.slice a1 on c1).ownBlock with
    | none => exact .inl rfl
    | some g => exact .inr (fun e => HAP.out g e.symm h)))
  have z1 := b1.size
  rw [tz] at z1
  clear b1 N1 tz T0 TB Q1 Q2 C1
  obtain ⟨⟨j0, j1, j2, j3, j4, j5, j6⟩, _, _⟩ := res7 P1.out
  go_wp2_with fail
  refine (C2.out _ R2.out (by omega)).mono ?_
  rintro e w2 ⟨rfl, N2, b2⟩
  have F2 : Hid (Fro B hi w w2) := Lib.hid (F1.out.trans (Fro.grown b2 G2.out))
  have R3 := Lib.hid N2
  have R4 := Lib.hid (R1.out.kept b2 (by
    cases h : (Value.slice a0 sn c0).ownBlock with
    | none => exact .inl rfl
    | some g => exact .inr (fun e => HAP.out g h e.symm)))
  clear b2 N2 C2 R1 R2 j0 j1 j2 j3 j4 j5 j6
  go_wp2
  go_ret
  exact ⟨rfl, R4.out, R3.out, F2.out⟩
set_option maxRecDepth 100000 in
set_option maxHeartbeats 2000000 in
theorem l_heldMachine (m : McL) (a0 a1 : Option Addr) (c0 c1 k : Nat) (w : World) (r1 : ReadI w a0 (mki k m.st.length)) (r2 : ReadI w a1 (mki (k + m.st.length) m.out.length)) (hk : k + m.st.length ≤ 2097152) (l1 : m.st.length ≤ 2097152) (l2 : m.out.length ≤ 2097152) :
    Calls Tryz.prog 15 #[mcA m (.slice a0 m.st.length c0) (.slice a1 m.out.length c1), .int .i64 (k : Int)] w fun e w' => e = .returned (.int .i64 ((k + m.st.length + m.out.length : Nat) : Int)) ∧ Below w.heap.size w w' := by
  obtain ⟨pc, sp, fp, st, out, stt, val⟩ := m
  unfold mcA mcRow
  dsimp only at r1 r2 hk l1 l2 ⊢
  obtain ⟨sn, hsn⟩ : ∃ x, st.length = x := ⟨_, rfl⟩
  obtain ⟨on, hon⟩ : ∃ x, out.length = x := ⟨_, rfl⟩
  rw [hsn] at r1 r2 hk l1 ⊢
  rw [hon] at r2 l2 ⊢
  have TB := Lib.hid ((Below.refl w.heap.size w).alloc (Nat.le_refl _) (.cells #[.int .i64 pc, .int .i64 sp, .int .i64 fp, .slice a0 sn c0, .slice a1 on c1, .int .i64 stt, .int .i64 val] 30))
  have C1 := Lib.hid (l_heldInts a0 c0 sn k _ (r1.below TB.out) (by omega) (by omega))
  have C2 := Lib.hid (l_heldInts a1 c1 on (k + sn) _ (r2.below TB.out) l2 hk)
  clear r1 r2 l1 hsn hon
  go_enter Tryz.func15, Tryz.ntmps15
  go_wp2_with fail
  refine C1.out.mono ?_
  rintro e w1 ⟨rfl, rfl⟩
  have hd : decide ((k : Int) + (sn : Int) < 0) = false := by simp; omega
  go_wp2_with fail
  refine C2.out.mono ?_
  rintro e w1 ⟨rfl, rfl⟩
  have hd2 : decide ((k : Int) + (sn : Int) + (on : Int) < 0) = false := by simp; omega
  go_wp2
  go_ret
  exact ⟨rfl, TB.out⟩
end Go.Proofs.YtakgjlpgcepnkaaGreat

/-! What marks may turn: only the shape matters -/
namespace Go.Proofs.YtakgjlpgcepnkaaGreat
open Go.RowKit Go.Lib

/-- Of the same shape. -/
def Shp (x y : Value) : Prop := x = y ∨ (∃ s t, x = .string s ∧ y = .string t) ∨ (∃ a b, x = .int .i64 a ∧ y = .int .i64 b) ∨ (∃ a b, x = .bool a ∧ y = .bool b)
theorem Shp.ints (a b : Int) : Shp (.int .i64 a) (.int .i64 b) := .inr (.inr (.inl ⟨_, _, rfl, rfl⟩))
theorem Shp.strs (a b : ByteArray) : Shp (.string a) (.string b) := .inr (.inl ⟨_, _, rfl, rfl⟩)
theorem Shp.bools (a b : Bool) : Shp (.bool a) (.bool b) := .inr (.inr (.inr ⟨_, _, rfl, rfl⟩))
theorem Shp.str {s : ByteArray} {y : Value} (h : Shp (.string s) y) : ∃ t, y = .string t := by
  rcases h with rfl | ⟨_, t, _, rfl⟩ | ⟨_, _, h, _⟩ | ⟨_, _, h, _⟩
  · exact ⟨_, rfl⟩
  · exact ⟨_, rfl⟩
  · cases h
  · cases h
theorem Shp.int {s : Int} {y : Value} (h : Shp (.int .i64 s) y) : ∃ t, y = .int .i64 t := by
  rcases h with rfl | ⟨_, _, h, _⟩ | ⟨_, b, _, rfl⟩ | ⟨_, _, h, _⟩
  · exact ⟨_, rfl⟩
  · cases h
  · exact ⟨_, rfl⟩
  · cases h
theorem Shp.bool {s : Bool} {y : Value} (h : Shp (.bool s) y) : ∃ t, y = .bool t := by
  rcases h with rfl | ⟨_, _, h, _⟩ | ⟨_, _, h, _⟩ | ⟨_, b, _, rfl⟩
  · exact ⟨_, rfl⟩
  · cases h
  · cases h
  · exact ⟨_, rfl⟩
theorem Shp.slice {a : Option Addr} {l c : Nat} {y : Value} (h : Shp (.slice a l c) y) : y = .slice a l c := by
  rcases h with rfl | ⟨_, _, h, _⟩ | ⟨_, _, h, _⟩ | ⟨_, _, h, _⟩
  · rfl
  · cases h
  · cases h
  · cases h
theorem Shp.trans {x y z : Value} (h : Shp x y) (h' : Shp y z) : Shp x z := by
  rcases h with rfl | ⟨s, t, rfl, rfl⟩ | ⟨a, b, rfl, rfl⟩ | ⟨a, b, rfl, rfl⟩
  · exact h'
  · obtain ⟨t, rfl⟩ := h'.str; exact Shp.strs _ _
  · obtain ⟨t, rfl⟩ := h'.int; exact Shp.ints _ _
  · obtain ⟨t, rfl⟩ := h'.bool; exact Shp.bools _ _
/-- Blocks outside lo .. hi are as they were; those within keep their shape. -/
structure Mkd (lo hi : Nat) (w w' : World) : Prop where
  os : w'.os = w.os
  tape : w'.tape = w.tape
  output : w'.output = w.output
  size : w.heap.size ≤ w'.heap.size
  out : ∀ k, k < w.heap.size → k < lo ∨ hi ≤ k → w'.heap[k]? = w.heap[k]?
  cell : ∀ k j x, w.cell? ⟨k, j, none⟩ = some x → ∃ y, w'.cell? ⟨k, j, none⟩ = some y ∧ Shp x y
  frz : ∀ k j, k < w.heap.size → w.frozen? ⟨k, j, none⟩ = false → w'.frozen? ⟨k, j, none⟩ = false
theorem Mkd.refl (lo hi : Nat) (w : World) : Mkd lo hi w w := ⟨rfl, rfl, rfl, Nat.le_refl _, fun _ _ _ => rfl, fun _ _ x h => ⟨x, h, .inl rfl⟩, fun _ _ _ h => h⟩
theorem Mkd.trans {lo hi : Nat} {w w' w'' : World} (h : Mkd lo hi w w') (h' : Mkd lo hi w' w'') : Mkd lo hi w w'' :=
  ⟨h'.os.trans h.os, h'.tape.trans h.tape, h'.output.trans h.output, Nat.le_trans h.size h'.size, fun k hk ho => (h'.out k (Nat.lt_of_lt_of_le hk h.size) ho).trans (h.out k hk ho),
    fun k j x e => by
      obtain ⟨y, e1, s1⟩ := h.cell k j x e
      obtain ⟨z, e2, s2⟩ := h'.cell k j y e1
      exact ⟨z, e2, s1.trans s2⟩,
    fun k j hk e => h'.frz k j (Nat.lt_of_lt_of_le hk h.size) (h.frz k j hk e)⟩
theorem Mkd.below {lo hi : Nat} {w w' : World} (h : Below w.heap.size w w') : Mkd lo hi w w' :=
  ⟨h.os, h.tape, h.output, h.size, fun k hk _ => h.block k hk,
    fun k j x e => ⟨x, by have hk := World.block_lt_of_cell? w _ e; exact (h.cell (p := ⟨k, j, none⟩) hk).trans e, .inl rfl⟩,
    fun k j hk e => by
      have hh := h.block k hk
      unfold World.frozen? at e ⊢
      simp only [hh]
      exact e⟩
theorem Mkd.set {lo hi g j : Nat} {w : World} {x v : Value} (h0 : lo ≤ g) (h1 : g < hi) (hc : w.cell? ⟨g, j, none⟩ = some x) (hs : Shp x v) : Mkd lo hi w (w.setCell ⟨g, j, none⟩ v) :=
  ⟨rfl, rfl, rfl, by simp [World.setCell], fun k _ ho => set_other (by omega),
    fun k i y e => by
      by_cases hk : k = g ∧ i = j
      · obtain ⟨rfl, rfl⟩ := hk
        rw [hc] at e
        obtain rfl := Option.some.inj e
        exact ⟨v, World.cell?_setCell_same _ _ _ hc, hs⟩
      · exact ⟨y, by rw [World.cell?_setCell_other _ _ _ _ (fun e => hk (by injection e with e1 e2 _; exact ⟨e1.symm, e2.symm⟩))]; exact e, .inl rfl⟩,
    fun k i _ e => by rw [World.frozen?_setCell]; exact e⟩
/-- Outside a machine's own blocks nothing has changed. -/
theorem Mkd.block {lo hi k : Nat} {w w' : World} (h : Mkd lo hi w w') (hk : k < w.heap.size) (ho : k < lo ∨ hi ≤ k) : w'.heap[k]? = w.heap[k]? := h.out k hk ho
theorem Mkd.toBelow {lo hi B : Nat} {w w' : World} (h : Mkd lo hi w w') (hB : B ≤ lo) (hs : B ≤ w.heap.size) : Below B w w' := ⟨h.os, h.tape, h.output, h.size, fun k hk => h.out k (by omega) (.inl (by omega))⟩

/-- Rows by their shape. -/
def ShI (lo hi : Nat) (w : World) (a : Option Addr) (n : Nat) : Prop := ∀ j, j < n → ∃ g, a = some ⟨g, 0, none⟩ ∧ lo ≤ g ∧ g < hi ∧ (∃ v, w.cell? ⟨g, j, none⟩ = some (.int .i64 v)) ∧ w.frozen? ⟨g, j, none⟩ = false
theorem ShI.mkd {lo hi lo' hi' n : Nat} {w w' : World} {a : Option Addr} (h : ShI lo hi w a n) (hm : Mkd lo' hi' w w') : ShI lo hi w' a n := fun j hj => by
  obtain ⟨g, e, h1, h2, ⟨v, hv⟩, hf⟩ := h j hj
  obtain ⟨y, hy, s⟩ := hm.cell _ _ _ hv
  obtain ⟨t, rfl⟩ := s.int
  exact ⟨g, e, h1, h2, ⟨t, hy⟩, hm.frz _ _ (World.block_lt_of_cell? w _ hv) hf⟩
theorem shI_of {B T c : Nat} {w : World} {a : Option Addr} {l : List Int} (h : w.ownsRow B T 1 (.slice a l.length c) l.length (intV l)) : ShI B w.heap.size w a l.length := fun j hj => by
  obtain ⟨g, e, hg, hc⟩ := readI_of h j hj
  refine ⟨g, e, ?_, hg, ⟨_, hc⟩, ?_⟩
  · rcases h.2 with ⟨e', _⟩ | ⟨g', cap, cur, e', h1, _⟩
    · injection e' with e' e''; omega
    · injection e' with e'
      rw [e] at e'
      injection e' with e'
      injection e' with e'
      omega
  · subst e
    exact h.frozenAt j
set_option maxHeartbeats 1000000 in
theorem l_markIntM (lo hi : Nat) (a : Option Addr) (n c m : Nat) (w : World) (hs : ShI lo hi w a n) (hl : n ≤ 1048576) (h1 : m ≤ 16000000) :
    Calls Tryz.prog 33 #[.slice a n c, .int .i64 (m : Int)] w fun e w' => e = .returned (.int .i64 ((m + n : Nat) : Int)) ∧ Mkd lo hi w w' := by
  have HS := Lib.hid hs
  clear hs
  go_enter Tryz.func33, Tryz.ntmps33
  go_wp2_with fail
  go_loopw [1, 5] (fun x i wr => ∃ k : Nat, k ≤ n ∧ i = .int .i64 (k : Int) ∧ x = .int .i64 ((m + k : Nat) : Int) ∧ Hid (Mkd lo hi w wr)) (fun _ i _ => n - (intOf i).toNat)
  case atStart => exact ⟨0, Nat.zero_le _, rfl, rfl, Lib.hid (Mkd.refl _ _ _)⟩
  case round =>
    obtain ⟨k, hk, rfl, rfl, HM⟩ := hrel
    by_cases hlt : k < n
    · obtain ⟨g, rfl, q1, q2, ⟨v, hc⟩, hf⟩ := (HS.out.mkd HM.out) k hlt
      have HM' : Hid (Mkd lo hi w (wr.setCell ⟨g, k, none⟩ (.int .i64 ((m : Int) + (k : Int))))) := Lib.hid (HM.out.trans (Mkd.set q1 q2 hc (Shp.ints _ _)))
      have k0 : (0 : Int) ≤ (k : Int) := by omega
      have k1 : (k : Int) < (n : Int) := by omega
      go_wp2
      go_roundw
      case rel => exact ⟨k + 1, by omega, by go_num, by go_num, HM'⟩
      case measure => simp [intOf]; omega
    · have hkk : k = n := by omega
      subst hkk
      go_wp2
      go_ret
      exact ⟨rfl, HM.out⟩
end Go.Proofs.YtakgjlpgcepnkaaGreat

/-! Marks of machines by shape -/
namespace Go.Proofs.YtakgjlpgcepnkaaGreat
open Go.RowKit Go.Lib

set_option maxHeartbeats 2000000 in
theorem l_markMcM (lo hi : Nat) (pc sp fp stt val : Int) (a0 a1 : Option Addr) (c0 c1 n0 n1 k : Nat) (w : World) (hh : hi ≤ w.heap.size) (h0 : ShI lo hi w a0 n0) (h1 : ShI lo hi w a1 n1) (hk : k ≤ 6000000) (l0 : n0 ≤ 1048576) (l1 : n1 ≤ 1048576) :
    Calls Tryz.prog 14 #[.agg #[.int .i64 pc, .int .i64 sp, .int .i64 fp, .slice a0 n0 c0, .slice a1 n1 c1, .int .i64 stt, .int .i64 val], .int .i64 (k : Int)] w fun e w' => e = .returned (.int .i64 ((k + n0 + n1 : Nat) : Int)) ∧ Mkd lo hi w w' := by
  have T0 := Lib.hid (heap_alloc_new w (.cells #[.int .i64 pc, .int .i64 sp, .int .i64 fp, .slice a0 n0 c0, .slice a1 n1 c1, .int .i64 stt, .int .i64 val] 30))
  have TB := Lib.hid ((Below.refl w.heap.size w).alloc (Nat.le_refl _) (.cells #[.int .i64 pc, .int .i64 sp, .int .i64 fp, .slice a0 n0 c0, .slice a1 n1 c1, .int .i64 stt, .int .i64 val] 30))
  have M0 : Hid (Mkd lo hi w _) := Lib.hid (Mkd.below TB.out)
  have C1 := Lib.hid (l_markIntM lo hi a0 n0 c0 k _ (h0.mkd M0.out) l0 (by omega))
  have C2 := Lib.hid (fun (W : World) (hm : Mkd lo hi w W) => l_markIntM lo hi a1 n1 c1 (k + n0) W (h1.mkd hm) l1 (by omega))
  have tz : (w.alloc (.cells #[.int .i64 pc, .int .i64 sp, .int .i64 fp, .slice a0 n0 c0, .slice a1 n1 c1, .int .i64 stt, .int .i64 val] 30)).heap.size = w.heap.size + 1 := by simp
  have HH := Lib.hid hh
  clear h0 h1
  go_enter Tryz.func14, Tryz.ntmps14
  go_wp2_with fail
  refine C1.out.mono ?_
  rintro e w1 ⟨rfl, b1⟩
  have M1 : Hid (Mkd lo hi w w1) := Lib.hid (M0.out.trans b1)
  have P1 := Lib.hid ((b1.block (k := w.heap.size) (by rw [tz]; omega) (.inr HH.out)).trans T0.out)
  clear b1 tz T0 TB M0 C1
  obtain ⟨⟨j0, j1, j2, j3, j4, j5, j6⟩, _, _⟩ := res7 P1.out
  go_wp2_with fail
  refine (C2.out _ M1.out).mono ?_
  rintro e w2 ⟨rfl, b2⟩
  have M2 : Hid (Mkd lo hi w w2) := Lib.hid (M1.out.trans b2)
  clear b2 P1 M1 C2 j0 j1 j2 j3 j4 j5 j6
  go_wp2
  go_ret
  exact ⟨rfl, M2.out⟩
end Go.Proofs.YtakgjlpgcepnkaaGreat

/-! How long a machine's rows are behind a step. Nothing of the program -/
namespace Go.Proofs.YtakgjlpgcepnkaaGreat
open Go.RowKit Go.Lib

end Go.Proofs.YtakgjlpgcepnkaaGreat

/-! Machines as arguments of a law. Nothing of the program -/
namespace Go.Proofs.YtakgjlpgcepnkaaGreat
open Go.RowKit Go.Lib Go.ChangeShapes Go.WideShapes Go.Deep Go.WideElems Go.Maps

section
variable {H : Type} {enc : TypeId × Value → H} {P : Program} {w : World} {base : Nat} {spare : Nat → Bool} {held : Bool}
theorem argInW_at {t e : TypeId} {v : Value} {n : Nat} {y : DataW H × List MemPlace} (ht : P.underlying t = some (.slice e)) (he : P.underlying e = some (.int .i64)) (hC : P.cellsOf e = 1)
    (h : DataW.trod enc P w 0 (fun _ => true) held n t [v] = some y) : ∃ (l : List Int) (a : Option Addr) (c : Nat), v = .slice a l.length c ∧ ArgIn w a l ∧ l.length ≤ maxLen ∧ ∀ e ∈ l, I64 e := by
  rcases open_ints ht he hC h with ⟨hcs, _⟩ | ⟨x, len, cap, zs, hcs, _, hl, hm, hz, _, hc, hwf⟩
  · injection hcs with hcs _
    exact ⟨[], none, 0, hcs, (fun k hk => absurd hk (by simp)), (by simp [maxLen]), fun e he => by simp at he⟩
  · injection hcs with hcs _
    simp at hz
    refine ⟨zs.take len, some x, cap, by rw [hcs]; simp; omega, fun k hk => ?_, by simp; omega, fun e he => bounds_i64 (hwf e (List.mem_of_mem_take he))⟩
    have hk' : k < zs.length := by simp at hk; omega
    have hce := hc k hk'
    refine ⟨x, rfl, by have := World.block_lt_of_cell? w _ hce; rw [addr_block] at this; exact this, ?_⟩
    rw [hce]
    simp [List.getD, hk']
theorem array7 {α : Type} {cs : Array α} (h : cs.size = 7) : ∃ c0 c1 c2 c3 c4 c5 c6, cs = #[c0, c1, c2, c3, c4, c5, c6] := by
  obtain ⟨l⟩ := cs
  match l, h with
  | [c0, c1, c2, c3, c4, c5, c6], _ => exact ⟨c0, c1, c2, c3, c4, c5, c6, rfl⟩
theorem trod_struct7 {t : TypeId} {f0 f1 f2 f3 f4 f5 f6 : Field} {fuel : Nat} {cs : List Value} {x : DataW H × List MemPlace} (ht : P.underlying t = some (.struct #[f0, f1, f2, f3, f4, f5, f6])) (h : DataW.trod enc P w base spare held fuel t cs = some x) :
    ∃ y0 y1 y2 y3 y4 y5 y6 n, DataW.trod enc P w base spare held n f0.type ((cs.drop f0.offset).take (P.cellsOf f0.type)) = some y0 ∧
      DataW.trod enc P w base spare held n f1.type ((cs.drop f1.offset).take (P.cellsOf f1.type)) = some y1 ∧ DataW.trod enc P w base spare held n f2.type ((cs.drop f2.offset).take (P.cellsOf f2.type)) = some y2 ∧
      DataW.trod enc P w base spare held n f3.type ((cs.drop f3.offset).take (P.cellsOf f3.type)) = some y3 ∧ DataW.trod enc P w base spare held n f4.type ((cs.drop f4.offset).take (P.cellsOf f4.type)) = some y4 ∧
      DataW.trod enc P w base spare held n f5.type ((cs.drop f5.offset).take (P.cellsOf f5.type)) = some y5 ∧ DataW.trod enc P w base spare held n f6.type ((cs.drop f6.offset).take (P.cellsOf f6.type)) = some y6 := by
  obtain ⟨xs, n, _, rfl, hl, hlen, hf⟩ := DataW.trod_struct ht h
  match xs, hlen with
  | [y0, y1, y2, y3, y4, y5, y6], _ => exact ⟨y0, y1, y2, y3, y4, y5, y6, n, by simpa using hf 0 f0 rfl, by simpa using hf 1 f1 rfl, by simpa using hf 2 f2 rfl, by simpa using hf 3 f3 rfl, by simpa using hf 4 f4 rfl, by simpa using hf 5 f5 rfl, by simpa using hf 6 f6 rfl⟩
theorem open_agg7 {r : Reach} {b0 : Nat} {t : TypeId} {f0 f1 f2 f3 f4 f5 f6 : Field} {v : Value} {d : DataW H} {p : List MemPlace} (hs : P.underlying t = some (.struct #[f0, f1, f2, f3, f4, f5, f6])) (hone : oneCellFields P #[f0, f1, f2, f3, f4, f5, f6] = true) (hC : P.cellsOf t = 7)
    (hv : Value.okWide P w r b0 t v) (h : DataW.Trod enc P w base spare held t v d p) :
    ∃ (v0 v1 v2 v3 v4 v5 v6 : Value) (y0 y1 y2 y3 y4 y5 y6 : DataW H × List MemPlace) (n : Nat), v = .agg #[v0, v1, v2, v3, v4, v5, v6] ∧
      DataW.trod enc P w base spare held n f0.type [v0] = some y0 ∧ DataW.trod enc P w base spare held n f1.type [v1] = some y1 ∧ DataW.trod enc P w base spare held n f2.type [v2] = some y2 ∧ DataW.trod enc P w base spare held n f3.type [v3] = some y3 ∧
      DataW.trod enc P w base spare held n f4.type [v4] = some y4 ∧ DataW.trod enc P w base spare held n f5.type [v5] = some y5 ∧ DataW.trod enc P w base spare held n f6.type [v6] = some y6 := by
  obtain ⟨cs, rfl, hsz⟩ := okWide_struct hs hv
  obtain ⟨c0, c1, c2, c3, c4, c5, c6, rfl⟩ := array7 (hsz.trans hC)
  obtain ⟨fuel, hf⟩ := h
  obtain ⟨y0, y1, y2, y3, y4, y5, y6, n, h0, h1, h2, h3, h4, h5, h6⟩ := trod_struct7 hs hf
  obtain ⟨o0, k0⟩ := Go.Deep.hone_of hone 0 f0 rfl
  obtain ⟨o1, k1⟩ := Go.Deep.hone_of hone 1 f1 rfl
  obtain ⟨o2, k2⟩ := Go.Deep.hone_of hone 2 f2 rfl
  obtain ⟨o3, k3⟩ := Go.Deep.hone_of hone 3 f3 rfl
  obtain ⟨o4, k4⟩ := Go.Deep.hone_of hone 4 f4 rfl
  obtain ⟨o5, k5⟩ := Go.Deep.hone_of hone 5 f5 rfl
  obtain ⟨o6, k6⟩ := Go.Deep.hone_of hone 6 f6 rfl
  exact ⟨c0, c1, c2, c3, c4, c5, c6, y0, y1, y2, y3, y4, y5, y6, n, rfl, by simpa [Value.cells, o0, k0] using h0, by simpa [Value.cells, o1, k1] using h1, by simpa [Value.cells, o2, k2] using h2, by simpa [Value.cells, o3, k3] using h3, by simpa [Value.cells, o4, k4] using h4, by simpa [Value.cells, o5, k5] using h5, by simpa [Value.cells, o6, k6] using h6⟩
end
/-- A machine's numbers are numbers. -/
structure McNum (m : McL) : Prop where
  ws : ∀ v ∈ m.st, I64 v
  pc : I64 m.pc
  sp : I64 m.sp
  fp : I64 m.fp
section
variable {H : Type} {enc : TypeId × Value → H} {P : Program} {w : World} {held : Bool}
theorem argM_at {tM tI tS : TypeId} {f0 f1 f2 f3 f4 f5 f6 : Field} {r : Reach} {b0 : Nat} {v : Value} {d : DataW H} {p : List MemPlace} (hs : P.underlying tM = some (.struct #[f0, f1, f2, f3, f4, f5, f6])) (hone : oneCellFields P #[f0, f1, f2, f3, f4, f5, f6] = true) (hC : P.cellsOf tM = 7)
    (hI : P.underlying tI = some (.int .i64)) (hS : P.underlying tS = some (.slice tI)) (hCI : P.cellsOf tI = 1)
    (ht : f0.type = tI ∧ f1.type = tI ∧ f2.type = tI ∧ f3.type = tS ∧ f4.type = tS ∧ f5.type = tI ∧ f6.type = tI)
    (hv : Value.okWide P w r b0 tM v) (h : DataW.Trod enc P w 0 (fun _ => true) held tM v d p) :
    ∃ (m : McL) (aS aO : Option Addr) (cS cO : Nat), v = mcA m (.slice aS m.st.length cS) (.slice aO m.out.length cO) ∧ ArgM w aS aO m ∧ m.st.length ≤ maxLen ∧ m.out.length ≤ maxLen ∧ McNum m := by
  obtain ⟨v0, v1, v2, v3, v4, v5, v6, y0, y1, y2, y3, y4, y5, y6, n, rfl, h0, h1, h2, h3, h4, h5, h6⟩ := open_agg7 hs hone hC hv h
  obtain ⟨e0, e1, e2, e3, e4, e5, e6⟩ := ht
  rw [e0] at h0
  rw [e1] at h1
  rw [e2] at h2
  rw [e3] at h3
  rw [e4] at h4
  rw [e5] at h5
  rw [e6] at h6
  obtain ⟨k0, E0, _, w0⟩ := DataW.trod_int hI h0
  injection E0 with E0; subst E0
  obtain ⟨k1, E1, _, w1⟩ := DataW.trod_int hI h1
  injection E1 with E1; subst E1
  obtain ⟨k2, E2, _, w2⟩ := DataW.trod_int hI h2
  injection E2 with E2; subst E2
  obtain ⟨k5, E5, _, w5⟩ := DataW.trod_int hI h5
  injection E5 with E5; subst E5
  obtain ⟨k6, E6, _, w6⟩ := DataW.trod_int hI h6
  injection E6 with E6; subst E6
  obtain ⟨ls, aS, cS, rfl, s1, s2, s3⟩ := argInW_at hS hI hCI h3
  obtain ⟨lo, aO, cO, rfl, o1, o2, o3⟩ := argInW_at hS hI hCI h4
  exact ⟨⟨k0, k1, k2, ls, lo, k5, k6⟩, aS, aO, cS, cO, rfl, ⟨s1, o1⟩, s2, o2, ⟨s3, bounds_i64 w0, bounds_i64 w1, bounds_i64 w2⟩⟩
end
end Go.Proofs.YtakgjlpgcepnkaaGreat

/-! The laws' own functions on one token: its size, and the program's token made of it -/
namespace Go.Proofs.YtakgjlpgcepnkaaGreat
open Go.RowKit Go.Lib

theorem infoSy : (Tryz.prog.info? 70).map (fun i => (i.zero, i.size, i.bytes)) = some (some (.agg #[.string ⟨#[]⟩, .int .i64 0, .int .i64 0]), 3, 32) := by kernel_rfl
theorem l_szSymbol (s : ByteArray) (k n : Int) (left : Int) (w : World) (hm : s.size ≤ maxLen) (h0 : 0 ≤ left) (h1 : left ≤ 1048576) (h2 : (s.size : Int) ≤ left) :
    Calls Tryz.prog 91 #[.agg #[.string s, .int .i64 k, .int .i64 n], .int .i64 left] w fun e w' => e = .returned (.int .i64 (left - (s.size : Int))) ∧ Below w.heap.size w w' := by
  unfold maxLen at hm
  go_enter Tryz.func91, Tryz.ntmps91
  go_wp2
  all_goals go_ret
  all_goals exact ⟨rfl, (Below.refl _ _).alloc (Nat.le_refl _) _⟩
theorem l_szSymbol_big (s : ByteArray) (k n : Int) (left : Int) (w : World) (hm : s.size ≤ maxLen) (h0 : 0 ≤ left) (h1 : left ≤ 1048576) (h2 : left < (s.size : Int)) :
    Calls Tryz.prog 91 #[.agg #[.string s, .int .i64 k, .int .i64 n], .int .i64 left] w fun e w' => e = .returned (.int .i64 (-1)) ∧ Below w.heap.size w w' := by
  unfold maxLen at hm
  go_enter Tryz.func91, Tryz.ntmps91
  go_wp2
  all_goals go_ret
  all_goals exact ⟨rfl, (Below.refl _ _).alloc (Nat.le_refl _) _⟩

theorem l_toSymbol (s : ByteArray) (k n : Int) (w : World) :
    Calls Tryz.prog 95 #[.agg #[.string s, .int .i64 k, .int .i64 n]] w fun e w' => e = .returned (.agg #[.string s, .int .i64 k, .int .i64 n]) ∧ Below w.heap.size w w' := by
  go_enter Tryz.func95, Tryz.ntmps95
  go_wp2
  refine bodyPost_ret (v := .agg #[.string s, .int .i64 k, .int .i64 n]) (by simp [results, Tryz.results95, go_sem]) rfl ⟨rfl, ?_⟩
  exact (((Below.refl _ _).alloc (Nat.le_refl _) _).alloc (by simp) _).alloc (by simp; omega) _
end Go.Proofs.YtakgjlpgcepnkaaGreat

/-! The laws' own functions on rows of symbols: the size, and the program's row made of it -/
namespace Go.Proofs.YtakgjlpgcepnkaaGreat
open Go.RowKit Go.Lib

/-- The measure that the laws take: -1, or all is small and what is left. -/
def SzSy (l : List SyL) (left : Int) (w : World) (e : Ending) (w' : World) : Prop :=
  ∃ r : Int, e = .returned (.int .i64 r) ∧ Below w.heap.size w w' ∧ (r = -1 ∨ (0 ≤ r ∧ r + ((l.length : Int) + (sumSy l : Int)) ≤ left))

set_option maxHeartbeats 1000000 in
theorem l_szSymbolS (a : Option Addr) (cap : Nat) (l : List SyL) (left : Int) (w : World) (hm : l.length ≤ maxLen) (ha : ArgSy w a l) (h0 : 0 ≤ left) (h1 : left ≤ 1048576) :
    Calls Tryz.prog 57 #[.slice a l.length cap, .int .i64 left] w (SzSy l left w) := by
  have HA := Lib.hid ha
  clear ha
  unfold maxLen at hm
  by_cases hbig : left < (l.length : Int)
  · have hd : decide (left - (l.length : Int) < 0) = true := by simp; omega
    go_enter Tryz.func57, Tryz.ntmps57
    go_wp2
    all_goals go_ret
    all_goals exact ⟨-1, rfl, Below.refl _ _, .inl rfl⟩
  have hd : decide (left - (l.length : Int) < 0) = false := by simp; omega
  have g0 : 0 ≤ left - (l.length : Int) := by omega
  go_enter Tryz.func57, Tryz.ntmps57
  go_wp2_with fail
  clear hd
  go_loopw [1, 5] (fun x i wr => ∃ k : Nat, k ≤ l.length ∧ i = .int .i64 (k : Int) ∧ x = .int .i64 (left - (l.length : Int) - (sumSy (l.take k) : Int)) ∧ (l.length : Int) + (sumSy (l.take k) : Int) ≤ left ∧ Below w.heap.size w wr) (fun _ i _ => l.length - (intOf i).toNat)
  case atStart => exact ⟨0, Nat.zero_le _, rfl, by simp [sumSy], by simp [sumSy]; omega, Below.refl _ _⟩
  case round =>
    obtain ⟨k, hk, rfl, rfl, hle, hbel⟩ := hrel
    have HB := Lib.hid hbel
    have hB := hbel.size
    obtain ⟨r, hr⟩ : ∃ r : Int, left - (l.length : Int) - (sumSy (l.take k) : Int) = r := ⟨_, rfl⟩
    have hr0 : 0 ≤ r := by omega
    have hr1 : r ≤ 1048576 := by omega
    by_cases hlt : k < l.length
    · obtain ⟨x, rfl, hx, c0, c1, c2, hsz, _, _⟩ := HA.out k hlt
      have HS := Lib.hid (sumSy_snoc l k hlt)
      obtain ⟨t, ht⟩ : ∃ t, l[k] = t := ⟨_, rfl⟩
      rw [ht] at c0 c1 c2 hsz HS
      have d0 : wr.cell? (x.add (k * 3)) = some (.string t.name) := (hbel.cell (by rw [addr_block]; exact hx)).trans c0
      have d1 : wr.cell? ⟨(x.add (k * 3)).block, (x.add (k * 3)).off + 1, none⟩ = some (.int .i64 t.start) := (hbel.cell (p := ⟨_, _, none⟩) (by rw [addr_block]; exact hx)).trans c1
      have d2 : wr.cell? ⟨(x.add (k * 3)).block, (x.add (k * 3)).off + 2, none⟩ = some (.int .i64 t.size) := (hbel.cell (p := ⟨_, _, none⟩) (by rw [addr_block]; exact hx)).trans c2
      have k0 : (0 : Int) ≤ (k : Int) := by omega
      have k1 : (k : Int) < (l.length : Int) := by omega
      have HR := Lib.hid hr
      rw [hr]
      clear c0 c1 c2 hbel hr ht
      by_cases hs : (t.name.size : Int) ≤ r
      · go_wp2_with fail
        refine (l_szSymbol t.name t.start t.size r _ hsz hr0 hr1 hs).mono ?_
        rintro e w1 ⟨rfl, b1⟩
        have HB1 := Lib.hid (HB.out.trans (b1.mono hB))
        clear b1
        have hd : decide (r - (t.name.size : Int) < 0) = false := by simp; omega
        go_wp2
        go_roundw
        case rel => exact ⟨k + 1, by omega, by go_num, by rw [HS.out, ← HR.out]; go_num, by rw [HS.out]; have := HR.out; omega, HB1.out⟩
        case measure => simp [intOf]; omega
      · have hs' : r < (t.name.size : Int) := by omega
        go_wp2_with fail
        refine (l_szSymbol_big t.name t.start t.size r _ hsz hr0 hr1 hs').mono ?_
        rintro e w1 ⟨rfl, b1⟩
        have HB1 := Lib.hid (HB.out.trans (b1.mono hB))
        clear b1
        go_wp2
        go_ret
        exact ⟨-1, rfl, HB1.out, .inl rfl⟩
    · have hkk : k = l.length := by omega
      subst hkk
      have HS := Lib.hid (sumSy_all l)
      have HR := Lib.hid hr
      rw [hr]
      clear hr
      go_wp2
      go_ret
      exact ⟨r, rfl, HB.out, .inr ⟨hr0, by have := HR.out; have := HS.out; omega⟩⟩
end Go.Proofs.YtakgjlpgcepnkaaGreat
