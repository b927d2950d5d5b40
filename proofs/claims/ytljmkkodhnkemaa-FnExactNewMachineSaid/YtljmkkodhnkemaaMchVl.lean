/- Plain facts: A machine by value: cells, rows; the model's MachineOk; The laws' own functions on machines: the size, the program's machine made of the argument, equality. Nothing of the program. -/
import Derived.Test.YtljmkkodhnkemaaRows
import Derived.Test.YtljmkkodhnkemaaMchSame
import Derived.Test.YtljmkkodhnkemaaRunMem
import Derived.Test.YtljmkkodhnkemaaNmBoth
import Derived.Test.YtljmkkodhnkemaaIntsLaw
import Derived.Test.YtljmkkodhnkemaaEqInts
import Derived.Outline
import Derived.Lib.Hide
import Derived.WalkSmall
import Derived.Deep.Cut
/-! A machine by value: cells, rows; the model's MachineOk -/
namespace Go.Proofs.Ytljmkkodhnkemaa
open Go.RowKit Go.Lib

theorem res7 {w : World} {b T : Nat} {x0 x1 x2 x3 x4 x5 x6 : Value} (h : w.heap[b]? = some (.cells #[x0, x1, x2, x3, x4, x5, x6] T (0, 0))) : (w.cell? ⟨b, 0, none⟩ = some x0 ∧ w.cell? ⟨b, 1, none⟩ = some x1 ∧ w.cell? ⟨b, 2, none⟩ = some x2 ∧ w.cell? ⟨b, 3, none⟩ = some x3 ∧ w.cell? ⟨b, 4, none⟩ = some x4 ∧ w.cell? ⟨b, 5, none⟩ = some x5 ∧ w.cell? ⟨b, 6, none⟩ = some x6) ∧ (∀ j, w.frozen? ⟨b, j, none⟩ = false) ∧ b < w.heap.size :=
  ⟨⟨(blk h).1 0 _ rfl, (blk h).1 1 _ rfl, (blk h).1 2 _ rfl, (blk h).1 3 _ rfl, (blk h).1 4 _ rfl, (blk h).1 5 _ rfl, (blk h).1 6 _ rfl⟩, (blk h).2.1, (blk h).2.2⟩
theorem set7_belowS {B b : Nat} {w W : World} (h : Below B w W) (hb : B ≤ b) (v0 v1 v2 v3 v4 v5 v6 : Value) : Below B w (((((((W.setCell ⟨b, 0, none⟩ v0).setCell ⟨b, 1, none⟩ v1).setCell ⟨b, 2, none⟩ v2).setCell ⟨b, 3, none⟩ v3).setCell ⟨b, 4, none⟩ v4).setCell ⟨b, 5, none⟩ v5).setCell ⟨b, 6, none⟩ v6) :=
  ((((((h.setCell hb _).setCell hb _).setCell hb _).setCell hb _).setCell hb _).setCell hb _).setCell hb _
theorem set7_otherS {b k : Nat} {W : World} (h : k ≠ b) (v0 v1 v2 v3 v4 v5 v6 : Value) : (((((((W.setCell ⟨b, 0, none⟩ v0).setCell ⟨b, 1, none⟩ v1).setCell ⟨b, 2, none⟩ v2).setCell ⟨b, 3, none⟩ v3).setCell ⟨b, 4, none⟩ v4).setCell ⟨b, 5, none⟩ v5).setCell ⟨b, 6, none⟩ v6).heap[k]? = W.heap[k]? :=
  (set_other h).trans ((set_other h).trans ((set_other h).trans ((set_other h).trans ((set_other h).trans ((set_other h).trans (set_other h))))))
theorem own7s {B b T n s : Nat} {w : World} {v : Value} {xs : List Value} (h : w.ownsRow B T s v n xs) (hn : v.ownBlock ≠ some b) {v0 v1 v2 v3 v4 v5 v6 : Value} : (((((((w.setCell ⟨b, 0, none⟩ v0).setCell ⟨b, 1, none⟩ v1).setCell ⟨b, 2, none⟩ v2).setCell ⟨b, 3, none⟩ v3).setCell ⟨b, 4, none⟩ v4).setCell ⟨b, 5, none⟩ v5).setCell ⟨b, 6, none⟩ v6).ownsRow B T s v n xs :=
  owns_blks h (fun g hg => set7_otherS (fun e => hn (by rw [hg, e])) _ _ _ _ _ _ _)
theorem set7_rowS {b T : Nat} {W : World} {x0 x1 x2 x3 x4 x5 x6 : Value} (h : W.heap[b]? = some (.cells #[x0, x1, x2, x3, x4, x5, x6] T (0, 0))) (v0 v1 v2 v3 v4 v5 v6 : Value) : (((((((W.setCell ⟨b, 0, none⟩ v0).setCell ⟨b, 1, none⟩ v1).setCell ⟨b, 2, none⟩ v2).setCell ⟨b, 3, none⟩ v3).setCell ⟨b, 4, none⟩ v4).setCell ⟨b, 5, none⟩ v5).setCell ⟨b, 6, none⟩ v6).heap[b]? = some (.cells #[v0, v1, v2, v3, v4, v5, v6] T (0, 0)) := by
  have h0 : (W.setCell ⟨b, 0, none⟩ v0).heap[b]? = some (.cells #[v0, x1, x2, x3, x4, x5, x6] T (0, 0)) := heap_setCell_at h v0
  have h1 : ((W.setCell ⟨b, 0, none⟩ v0).setCell ⟨b, 1, none⟩ v1).heap[b]? = some (.cells #[v0, v1, x2, x3, x4, x5, x6] T (0, 0)) := heap_setCell_at h0 v1
  have h2 : (((W.setCell ⟨b, 0, none⟩ v0).setCell ⟨b, 1, none⟩ v1).setCell ⟨b, 2, none⟩ v2).heap[b]? = some (.cells #[v0, v1, v2, x3, x4, x5, x6] T (0, 0)) := heap_setCell_at h1 v2
  have h3 : ((((W.setCell ⟨b, 0, none⟩ v0).setCell ⟨b, 1, none⟩ v1).setCell ⟨b, 2, none⟩ v2).setCell ⟨b, 3, none⟩ v3).heap[b]? = some (.cells #[v0, v1, v2, v3, x4, x5, x6] T (0, 0)) := heap_setCell_at h2 v3
  have h4 : (((((W.setCell ⟨b, 0, none⟩ v0).setCell ⟨b, 1, none⟩ v1).setCell ⟨b, 2, none⟩ v2).setCell ⟨b, 3, none⟩ v3).setCell ⟨b, 4, none⟩ v4).heap[b]? = some (.cells #[v0, v1, v2, v3, v4, x5, x6] T (0, 0)) := heap_setCell_at h3 v4
  have h5 : ((((((W.setCell ⟨b, 0, none⟩ v0).setCell ⟨b, 1, none⟩ v1).setCell ⟨b, 2, none⟩ v2).setCell ⟨b, 3, none⟩ v3).setCell ⟨b, 4, none⟩ v4).setCell ⟨b, 5, none⟩ v5).heap[b]? = some (.cells #[v0, v1, v2, v3, v4, v5, x6] T (0, 0)) := heap_setCell_at h4 v5
  exact heap_setCell_at h5 v6
set_option maxRecDepth 100000 in
set_option maxHeartbeats 2000000 in
theorem s_machineOk' (m : McL) (sa oa : Option Addr) (sc on oc : Nat) (w : World) : Calls Try.prog 6 #[mcA m (.slice sa m.st.length sc) (.slice oa on oc)] w fun e w' => e = .returned (.bool (mokB m)) ∧ Below w.heap.size w w' := by
  obtain ⟨pc, sp, fp, st, out, stt, val⟩ := m
  unfold mcA mcRow mokB
  dsimp only
  obtain ⟨n, hn⟩ : ∃ x, st.length = x := ⟨_, rfl⟩
  rw [hn]
  have H1 := Lib.hid (fun W => s_in7n sp 0 1200 W)
  have H2 := Lib.hid (fun W => s_in7n stt 0 2 W)
  obtain ⟨p1, hp1⟩ : ∃ x, (decide (0 ≤ sp) && decide (sp ≤ 1200)) = x := ⟨_, rfl⟩
  obtain ⟨p2, hp2⟩ : ∃ x, (decide (0 ≤ stt) && decide (stt ≤ 2)) = x := ⟨_, rfl⟩
  rw [hp1] at H1
  rw [hp2] at H2
  have HQ : Hid ((decide (n = 1200) && (decide (0 ≤ sp) && (decide (sp ≤ 1200) && (decide (0 ≤ stt) && decide (stt ≤ 2))))) = (decide (n = 1200) && (p1 && p2))) := Lib.hid (by rw [hp2, ← Bool.and_assoc (decide (0 ≤ sp)), hp1])
  rw [HQ.out]
  clear hn hp1 hp2 HQ
  by_cases h0 : n = 1200
  · have d0 : ((n : Int) == 1200) = true := by rw [h0]; rfl
    rw [decide_eq_true h0, Bool.true_and]
    clear h0
    cases p1 with
    | true =>
      rw [Bool.true_and]
      go_enter Try.func6, Try.ntmps6
      go_wp2_with fail
      refine (H1.out _).mono ?_
      rintro e w1 ⟨rfl, rfl⟩
      go_wp2_with fail
      refine (H2.out _).mono ?_
      rintro e w1 ⟨rfl, rfl⟩
      go_wp2
      go_ret
      exact ⟨rfl, (Below.refl _ _).alloc (Nat.le_refl _) _⟩
    | false =>
      rw [Bool.false_and]
      go_enter Try.func6, Try.ntmps6
      go_wp2_with fail
      refine (H1.out _).mono ?_
      rintro e w1 ⟨rfl, rfl⟩
      go_wp2
      go_ret
      exact ⟨rfl, (Below.refl _ _).alloc (Nat.le_refl _) _⟩
  · have d0 : ((n : Int) == 1200) = false := by simp; omega
    rw [decide_eq_false h0, Bool.false_and]
    clear h0
    go_enter Try.func6, Try.ntmps6
    go_wp2
    go_ret
    exact ⟨rfl, (Below.refl _ _).alloc (Nat.le_refl _) _⟩
end Go.Proofs.Ytljmkkodhnkemaa

/-! The laws' own functions on machines: the size, the program's machine made of the argument, equality -/
namespace Go.Proofs.Ytljmkkodhnkemaa
open Go.RowKit Go.Lib

/-- A machine that came in. -/
def ArgM (w : World) (a0 a1 : Option Addr) (m : McL) : Prop := ArgIn w a0 m.st ∧ ArgIn w a1 m.out
theorem ArgM.below {w w' : World} {a0 a1 : Option Addr} {m : McL} (h : ArgM w a0 a1 m) (hb : Below w.heap.size w w') : ArgM w' a0 a1 m := ⟨h.1.below hb, h.2.below hb⟩
theorem three_newM (w : World) (o1 o2 o3 : Obj) : (((w.alloc o1).alloc o2).alloc o3).heap[w.heap.size]? = some o1 ∧ (((w.alloc o1).alloc o2).alloc o3).heap[w.heap.size + 1]? = some o2 ∧ (((w.alloc o1).alloc o2).alloc o3).heap[w.heap.size + 2]? = some o3 ∧ (((w.alloc o1).alloc o2).alloc o3).heap.size = w.heap.size + 3 ∧ Below w.heap.size w (((w.alloc o1).alloc o2).alloc o3) := by
  obtain ⟨t1, t2, t3, t4⟩ := two_new w o1 o2
  have z : ((w.alloc o1).alloc o2).heap.size = w.heap.size + 2 := t3
  refine ⟨(Below.heap_alloc _ _ _ (by omega)).trans t1, (Below.heap_alloc _ _ _ (by omega)).trans t2, ?_, by simp, t4.alloc (by omega) _⟩
  rw [← z]
  exact heap_alloc_new _ o3
set_option maxRecDepth 100000 in
set_option maxHeartbeats 1000000 in
theorem l_szMachine (m : McL) (a0 a1 : Option Addr) (c0 c1 : Nat) (left : Int) (w : World) (h1 : m.st.length ≤ maxLen) (h2 : m.out.length ≤ maxLen) (h0 : 0 ≤ left) (hl : left ≤ 1048576) :
    Calls Try.prog 5 #[mcA m (.slice a0 m.st.length c0) (.slice a1 m.out.length c1), .int .i64 left] w fun e w' => ∃ r : Int, e = .returned (.int .i64 r) ∧ Below w.heap.size w w' ∧ (r = -1 ∨ (0 ≤ r ∧ r + (m.st.length : Int) + (m.out.length : Int) ≤ left)) := by
  obtain ⟨pc, sp, fp, st, out, stt, val⟩ := m
  unfold mcA mcRow
  dsimp only at h1 h2 ⊢
  obtain ⟨sn, hsn⟩ : ∃ x, st.length = x := ⟨_, rfl⟩
  obtain ⟨on, hon⟩ : ∃ x, out.length = x := ⟨_, rfl⟩
  rw [hsn] at h1 ⊢
  rw [hon] at h2 ⊢
  clear hsn hon
  have HB : Hid (Below w.heap.size w (w.alloc (.cells #[.int .i64 pc, .int .i64 sp, .int .i64 fp, .slice a0 sn c0, .slice a1 on c1, .int .i64 stt, .int .i64 val] 24))) := Lib.hid ((Below.refl _ _).alloc (Nat.le_refl _) _)
  go_enter Try.func5, Try.ntmps5
  go_wp2_with fail
  refine (l_szIntS a0 c0 sn left _ h0 hl h1).mono ?_
  rintro e w2 ⟨r2, rfl, rfl, hr2⟩
  rcases hr2 with rfl | ⟨q0, q1⟩
  · go_wp2
    go_ret
    exact ⟨-1, rfl, HB.out, .inl rfl⟩
  have hd2 : decide (r2 < 0) = false := by simp; omega
  go_wp2_with fail
  refine (l_szIntS a1 c1 on r2 _ q0 (by omega) h2).mono ?_
  rintro e w2 ⟨r3, rfl, rfl, hr3⟩
  rcases hr3 with rfl | ⟨s0, s1⟩
  · go_wp2
    go_ret
    exact ⟨-1, rfl, HB.out, .inl rfl⟩
  have hd3 : decide (r3 < 0) = false := by simp; omega
  go_wp2
  go_ret
  exact ⟨r3, rfl, HB.out, .inr ⟨s0, by omega⟩⟩
/-- A machine that a call has made. -/
def MaRes (m : McL) (w : World) (e : Ending) (w' : World) : Prop := ∃ v1 v2, e = .returned (mcA m v1 v2) ∧ w'.ownsRow w.heap.size 3 1 v1 m.st.length (intV m.st) ∧ w'.ownsRow w.heap.size 3 1 v2 m.out.length (intV m.out) ∧ Ap v1 v2 ∧ Below w.heap.size w w'
set_option maxRecDepth 100000 in
set_option maxHeartbeats 4000000 in
theorem l_toMachine (m : McL) (sa oa : Option Addr) (sc oc : Nat) (w : World) (ha : ArgM w sa oa m) (h1 : m.st.length ≤ 1048576) (h2 : m.out.length ≤ 1048576) : Calls Try.prog 7 #[mcA m (.slice sa m.st.length sc) (.slice oa m.out.length oc)] w (MaRes m w) := by
  obtain ⟨pc, sp, fp, st, out, stt, val⟩ := m
  unfold mcA mcRow
  have HA1 := Lib.hid ha.1
  have HA2 := Lib.hid ha.2
  dsimp only at h1 h2 HA1 HA2 ⊢
  have C1 := Lib.hid (fun (W : World) (hb : Below w.heap.size w W) => l_toIntS sa sc st W h1 (HA1.out.below hb))
  have C2 := Lib.hid (fun (W : World) (hb : Below w.heap.size w W) => l_toIntS oa oc out W h2 (HA2.out.below hb))
  obtain ⟨sn, hsn⟩ : ∃ x, st.length = x := ⟨_, rfl⟩
  obtain ⟨on, hon⟩ : ∃ x, out.length = x := ⟨_, rfl⟩
  have HSN := Lib.hid hsn
  have HON := Lib.hid hon
  rw [hsn] at C1 ⊢
  rw [hon] at C2 ⊢
  have T3 := Lib.hid (three_newM w (.cells #[.int .i64 pc, .int .i64 sp, .int .i64 fp, .slice sa sn sc, .slice oa on oc, .int .i64 stt, .int .i64 val] 24) (.cells #[.int .i64 0, .int .i64 0, .int .i64 0, .slice none 0 0, .slice none 0 0, .int .i64 0, .int .i64 0] 27) (.cells #[.int .i64 pc, .int .i64 sp, .int .i64 fp, .slice none 0 0, .slice none 0 0, .int .i64 0, .int .i64 0] 27))
  obtain ⟨W0, hW0⟩ : ∃ W, ((w.alloc (.cells #[.int .i64 pc, .int .i64 sp, .int .i64 fp, .slice sa sn sc, .slice oa on oc, .int .i64 stt, .int .i64 val] 24)).alloc (.cells #[.int .i64 0, .int .i64 0, .int .i64 0, .slice none 0 0, .slice none 0 0, .int .i64 0, .int .i64 0] 27)).alloc (.cells #[.int .i64 pc, .int .i64 sp, .int .i64 fp, .slice none 0 0, .slice none 0 0, .int .i64 0, .int .i64 0] 27) = W := ⟨_, rfl⟩
  rw [hW0] at T3
  have HW0 := Lib.hid hW0
  obtain ⟨P0, P1, P2, hz, HB0⟩ := T3.out
  have HZ0 : Hid (w.heap.size + 3 ≤ W0.heap.size) := Lib.hid (by omega)
  have HP0 := Lib.hid P0
  have HP1 := Lib.hid P1
  have HP2 := Lib.hid P2
  have HBB := Lib.hid HB0
  clear ha hsn hon hW0 T3 P0 P1 P2 hz HB0 h1 h2
  go_enter Try.func7, Try.ntmps7
  go_upto_region 5 with fail
  rw [HW0.out]
  have q3 : W0.cell? ⟨w.heap.size, 3, none⟩ = some (.slice sa sn sc) := (blk HP0.out).1 3 _ rfl
  go_wp2_with fail
  refine (C1.out _ HBB.out).mono ?_
  rintro e w1 ⟨v1, rfl, O1, b1⟩
  rw [HSN.out] at O1
  obtain ⟨x1, y1, rfl⟩ := owns_shape O1
  have Q0 := Lib.hid ((b1.block _ (blk HP0.out).2.2).trans HP0.out)
  have Q1 := Lib.hid ((b1.block _ (blk HP1.out).2.2).trans HP1.out)
  have Q2 := Lib.hid ((b1.block _ (blk HP2.out).2.2).trans HP2.out)
  have HO1 := Lib.hid O1
  have HB1 : Hid (Below w.heap.size w w1) := Lib.hid (HBB.out.trans (b1.mono (by have := HZ0.out; omega)))
  have HZ1 : Hid (w.heap.size + 3 ≤ w1.heap.size) := Lib.hid (by have := HZ0.out; have := b1.size; omega)
  clear q3 O1 b1
  obtain ⟨⟨j0, j1, j2, j3, j4, j5, j6⟩, gj, lj⟩ := res7 Q2.out
  go_upto_region 6 with fail
  have Q0' : Hid ((w1.setCell ⟨w.heap.size + 1 + 1, 3, none⟩ (.slice x1 sn y1)).heap[w.heap.size]? = _) := Lib.hid ((set_other (by omega)).trans Q0.out)
  have Q1' : Hid ((w1.setCell ⟨w.heap.size + 1 + 1, 3, none⟩ (.slice x1 sn y1)).heap[w.heap.size + 1]? = _) := Lib.hid ((set_other (by omega)).trans Q1.out)
  have Q2' : Hid ((w1.setCell ⟨w.heap.size + 1 + 1, 3, none⟩ (.slice x1 sn y1)).heap[w.heap.size + 1 + 1]? = some (.cells #[.int .i64 pc, .int .i64 sp, .int .i64 fp, .slice x1 sn y1, .slice none 0 0, .int .i64 0, .int .i64 0] 27 (0, 0))) := Lib.hid (heap_setCell_at Q2.out _)
  have HB1' : Hid (Below w.heap.size w (w1.setCell ⟨w.heap.size + 1 + 1, 3, none⟩ (.slice x1 sn y1))) := Lib.hid (HB1.out.setCell (by show w.heap.size ≤ w.heap.size + 1 + 1; omega) _)
  have HO1' : Hid ((w1.setCell ⟨w.heap.size + 1 + 1, 3, none⟩ (.slice x1 sn y1)).ownsRow (w.heap.size + 3) 3 1 (.slice x1 sn y1) sn (intV st)) := Lib.hid (owns_set (owns_lo HO1.out HZ0.out) (by omega))
  have hzz : (w1.setCell ⟨w.heap.size + 1 + 1, 3, none⟩ (.slice x1 sn y1)).heap.size = w1.heap.size := by simp [World.setCell]
  have HZ1' : Hid (w.heap.size + 3 ≤ (w1.setCell ⟨w.heap.size + 1 + 1, 3, none⟩ (.slice x1 sn y1)).heap.size) := Lib.hid (by rw [hzz]; exact HZ1.out)
  obtain ⟨W1, hW1⟩ : ∃ W, w1.setCell ⟨w.heap.size + 1 + 1, 3, none⟩ (.slice x1 sn y1) = W := ⟨_, rfl⟩
  rw [hW1] at Q0' Q1' Q2' HB1' HO1' HZ1'
  rw [hW1]
  clear hW1 hzz j0 j1 j2 j3 j4 j5 j6 gj lj Q0 Q1 Q2 HO1 HB1 HZ1
  have q4 : W1.cell? ⟨w.heap.size, 4, none⟩ = some (.slice oa on oc) := (blk Q0'.out).1 4 _ rfl
  go_wp2_with fail
  refine (C2.out _ HB1'.out).mono ?_
  rintro e w2 ⟨v2, rfl, O2, b2⟩
  rw [HON.out] at O2
  obtain ⟨x2, y2, rfl⟩ := owns_shape O2
  have S0 := Lib.hid ((b2.block _ (blk Q0'.out).2.2).trans Q0'.out)
  have S1 := Lib.hid ((b2.block _ (blk Q1'.out).2.2).trans Q1'.out)
  have S2 := Lib.hid ((b2.block _ (blk Q2'.out).2.2).trans Q2'.out)
  have HAP : Hid (Ap (.slice x1 sn y1) (.slice x2 on y2)) := Lib.hid (fun g e e' => by have h1 := (HO1'.out.lt g e).2; have h2 := (O2.lt g e').1; omega)
  have V1 := Lib.hid (owns_below HO1'.out b2)
  have V2 := Lib.hid (owns_lo O2 HZ1'.out)
  have HB2 : Hid (Below w.heap.size w w2) := Lib.hid (HB1'.out.trans (b2.mono (by have := HZ1'.out; omega)))
  clear q4 O2 b2 Q0' Q1' Q2' HO1' HB1' HZ1'
  obtain ⟨⟨j0, j1, j2, j3, j4, j5, j6⟩, gj, lj⟩ := res7 S2.out
  obtain ⟨⟨i0, i1, i2, i3, i4, i5, i6⟩, gi, li⟩ := res7 S0.out
  go_upto_region 9 with fail
  have X2 : Hid ((((w2.setCell ⟨w.heap.size + 1 + 1, 4, none⟩ (.slice x2 on y2)).setCell ⟨w.heap.size + 1 + 1, 5, none⟩ (.int .i64 stt)).setCell ⟨w.heap.size + 1 + 1, 6, none⟩ (.int .i64 val)).heap[w.heap.size + 1 + 1]? = some (.cells #[.int .i64 pc, .int .i64 sp, .int .i64 fp, .slice x1 sn y1, .slice x2 on y2, .int .i64 stt, .int .i64 val] 27 (0, 0))) := Lib.hid (heap_setCell_at (heap_setCell_at (heap_setCell_at S2.out _) _) _)
  have X1 : Hid ((((w2.setCell ⟨w.heap.size + 1 + 1, 4, none⟩ (.slice x2 on y2)).setCell ⟨w.heap.size + 1 + 1, 5, none⟩ (.int .i64 stt)).setCell ⟨w.heap.size + 1 + 1, 6, none⟩ (.int .i64 val)).heap[w.heap.size + 1]? = some (.cells #[.int .i64 0, .int .i64 0, .int .i64 0, .slice none 0 0, .slice none 0 0, .int .i64 0, .int .i64 0] 27 (0, 0))) := Lib.hid ((set_other (by omega)).trans ((set_other (by omega)).trans ((set_other (by omega)).trans S1.out)))
  have Y1 : Hid ((((w2.setCell ⟨w.heap.size + 1 + 1, 4, none⟩ (.slice x2 on y2)).setCell ⟨w.heap.size + 1 + 1, 5, none⟩ (.int .i64 stt)).setCell ⟨w.heap.size + 1 + 1, 6, none⟩ (.int .i64 val)).ownsRow (w.heap.size + 3) 3 1 (.slice x1 sn y1) sn (intV st)) := Lib.hid (owns_set (owns_set (owns_set V1.out (by omega)) (by omega)) (by omega))
  have Y2 : Hid ((((w2.setCell ⟨w.heap.size + 1 + 1, 4, none⟩ (.slice x2 on y2)).setCell ⟨w.heap.size + 1 + 1, 5, none⟩ (.int .i64 stt)).setCell ⟨w.heap.size + 1 + 1, 6, none⟩ (.int .i64 val)).ownsRow (w.heap.size + 3) 3 1 (.slice x2 on y2) on (intV out)) := Lib.hid (owns_set (owns_set (owns_set V2.out (by omega)) (by omega)) (by omega))
  have HB3 : Hid (Below w.heap.size w (((w2.setCell ⟨w.heap.size + 1 + 1, 4, none⟩ (.slice x2 on y2)).setCell ⟨w.heap.size + 1 + 1, 5, none⟩ (.int .i64 stt)).setCell ⟨w.heap.size + 1 + 1, 6, none⟩ (.int .i64 val))) := Lib.hid (((HB2.out.setCell (by show w.heap.size ≤ w.heap.size + 1 + 1; omega) _).setCell (by show w.heap.size ≤ w.heap.size + 1 + 1; omega) _).setCell (by show w.heap.size ≤ w.heap.size + 1 + 1; omega) _)
  obtain ⟨W3, hW3⟩ : ∃ W, ((w2.setCell ⟨w.heap.size + 1 + 1, 4, none⟩ (.slice x2 on y2)).setCell ⟨w.heap.size + 1 + 1, 5, none⟩ (.int .i64 stt)).setCell ⟨w.heap.size + 1 + 1, 6, none⟩ (.int .i64 val) = W := ⟨_, rfl⟩
  rw [hW3] at X2 X1 Y1 Y2 HB3
  rw [hW3]
  clear hW3 j0 j1 j2 j3 j4 j5 j6 gj lj i0 i1 i2 i3 i4 i5 i6 gi li
  obtain ⟨⟨j0, j1, j2, j3, j4, j5, j6⟩, gj, lj⟩ := res7 X2.out
  obtain ⟨⟨z0, z1, z2, z3, z4, z5, z6⟩, gz, lz⟩ := res7 X1.out
  go_wp2
  refine bodyPost_ret (v := .agg #[.int .i64 pc, .int .i64 sp, .int .i64 fp, .slice x1 sn y1, .slice x2 on y2, .int .i64 stt, .int .i64 val]) (by simp [results, Try.results7, go_sem, z0, z1, z2, z3, z4, z5, z6]) rfl ⟨_, _, rfl, ?_, ?_, HAP.out, ?_⟩
  · dsimp only
    rw [HSN.out]
    exact owns_lo (own7s Y1.out (ne_types Y1.out X1.out (by decide))) (by omega)
  · dsimp only
    rw [HON.out]
    exact owns_lo (own7s Y2.out (ne_types Y2.out X1.out (by decide))) (by omega)
  · exact set7_belowS HB3.out (by omega) _ _ _ _ _ _ _
set_option maxRecDepth 100000 in
set_option maxHeartbeats 2000000 in
theorem l_eqMachine (m : McL) (a0 a1 b0 b1 : Option Addr) (c0 c1 d0 d1 : Nat) (w : World) (h1 : ReadI w a0 m.st) (h2 : ReadI w a1 m.out) (h3 : ReadI w b0 m.st) (h4 : ReadI w b1 m.out) (l1 : m.st.length ≤ 1048576) (l2 : m.out.length ≤ 1048576) :
    Calls Try.prog 9 #[mcA m (.slice a0 m.st.length c0) (.slice a1 m.out.length c1), mcA m (.slice b0 m.st.length d0) (.slice b1 m.out.length d1)] w fun e w' => e = .returned (.bool true) ∧ Below w.heap.size w w' := by
  obtain ⟨pc, sp, fp, st, out, stt, val⟩ := m
  unfold mcA mcRow
  dsimp only at h1 h2 h3 h4 l1 l2 ⊢
  have E1 := Lib.hid (fun (W : World) (hb : Below w.heap.size w W) => l_eqInts a0 b0 c0 d0 st W (h1.below hb) (h3.below hb) l1)
  have E2 := Lib.hid (fun (W : World) (hb : Below w.heap.size w W) => l_eqInts a1 b1 c1 d1 out W (h2.below hb) (h4.below hb) l2)
  obtain ⟨sn, hsn⟩ : ∃ x, st.length = x := ⟨_, rfl⟩
  obtain ⟨on, hon⟩ : ∃ x, out.length = x := ⟨_, rfl⟩
  rw [hsn] at E1 ⊢
  rw [hon] at E2 ⊢
  have T2 := Lib.hid (two_new w (.cells #[.int .i64 pc, .int .i64 sp, .int .i64 fp, .slice a0 sn c0, .slice a1 on c1, .int .i64 stt, .int .i64 val] 27) (.cells #[.int .i64 pc, .int .i64 sp, .int .i64 fp, .slice b0 sn d0, .slice b1 on d1, .int .i64 stt, .int .i64 val] 27))
  obtain ⟨W0, hW0⟩ : ∃ W, (w.alloc (.cells #[.int .i64 pc, .int .i64 sp, .int .i64 fp, .slice a0 sn c0, .slice a1 on c1, .int .i64 stt, .int .i64 val] 27)).alloc (.cells #[.int .i64 pc, .int .i64 sp, .int .i64 fp, .slice b0 sn d0, .slice b1 on d1, .int .i64 stt, .int .i64 val] 27) = W := ⟨_, rfl⟩
  rw [hW0] at T2
  have HW0 := Lib.hid hW0
  have HZ0 : Hid (w.heap.size + 2 ≤ W0.heap.size) := Lib.hid (by have := T2.out.2.2.1; omega)
  have HP0 := Lib.hid T2.out.1
  have HP1 := Lib.hid T2.out.2.1
  have HBB := Lib.hid T2.out.2.2.2
  clear h1 h2 h3 h4 l1 l2 hsn hon hW0 T2
  go_enter Try.func9, Try.ntmps9
  go_upto_region 1 with fail
  rw [HW0.out]
  obtain ⟨⟨j0, j1, j2, j3, j4, j5, j6⟩, _, _⟩ := res7 HP0.out
  obtain ⟨⟨i0, i1, i2, i3, i4, i5, i6⟩, _, _⟩ := res7 HP1.out
  go_wp2_with fail
  refine (E1.out _ HBB.out).mono ?_
  rintro e w1 ⟨rfl, b1⟩
  have Q0 := Lib.hid ((b1.block _ (blk HP0.out).2.2).trans HP0.out)
  have Q1 := Lib.hid ((b1.block _ (blk HP1.out).2.2).trans HP1.out)
  have HB1 : Hid (Below w.heap.size w w1) := Lib.hid (HBB.out.trans (b1.mono (by have := HZ0.out; omega)))
  have HZ1 : Hid (w.heap.size + 2 ≤ w1.heap.size) := Lib.hid (by have := HZ0.out; have := b1.size; omega)
  clear b1 j0 j1 j2 j3 j4 j5 j6 i0 i1 i2 i3 i4 i5 i6
  obtain ⟨⟨j0, j1, j2, j3, j4, j5, j6⟩, _, _⟩ := res7 Q0.out
  obtain ⟨⟨i0, i1, i2, i3, i4, i5, i6⟩, _, _⟩ := res7 Q1.out
  go_wp2_with fail
  refine (E2.out _ HB1.out).mono ?_
  rintro e w2 ⟨rfl, b2⟩
  have S0 := Lib.hid ((b2.block _ (blk Q0.out).2.2).trans Q0.out)
  have S1 := Lib.hid ((b2.block _ (blk Q1.out).2.2).trans Q1.out)
  have HB2 : Hid (Below w.heap.size w w2) := Lib.hid (HB1.out.trans (b2.mono (by have := HZ1.out; omega)))
  clear b2 j0 j1 j2 j3 j4 j5 j6 i0 i1 i2 i3 i4 i5 i6
  obtain ⟨⟨j0, j1, j2, j3, j4, j5, j6⟩, _, _⟩ := res7 S0.out
  obtain ⟨⟨i0, i1, i2, i3, i4, i5, i6⟩, _, _⟩ := res7 S1.out
  go_wp2
  go_ret
  exact ⟨rfl, HB2.out⟩
end Go.Proofs.Ytljmkkodhnkemaa
