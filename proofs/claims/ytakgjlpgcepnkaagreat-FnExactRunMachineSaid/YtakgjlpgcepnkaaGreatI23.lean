/- The program's RunMachine. -/
import Derived.Test.YtakgjlpgcepnkaaGreatI22
namespace Go.Proofs.YtakgjlpgcepnkaaGreat
open Go.RowKit Go.Lib

/-- A machine and a number of steps were handed back. -/
def RunRM (r : McL × Nat) (w : World) (e : Ending) (w' : World) : Prop := ∃ v1 v2, e = .returned (.tuple #[mcA r.1 v1 v2, .int .i64 (r.2 : Int)]) ∧ w'.ownsRow w.heap.size 3 1 v1 r.1.st.length (intV r.1.st) ∧ w'.ownsRow w.heap.size 3 1 v2 r.1.out.length (intV r.1.out) ∧ Ap v1 v2 ∧ Below w.heap.size w w'
theorem runM_stop {fet : Int → Option (OpL × Nat)} {E : List Int} {m : McL} (h : m.stt ≠ 0) (n : Nat) : runM fet E n m = (m, 0) := by
  cases n with
  | zero => rfl
  | succ n => unfold runM; rw [if_neg h]
theorem runM_go {fet : Int → Option (OpL × Nat)} {E : List Int} {m : McL} (h : m.stt = 0) (n : Nat) : runM fet E (n + 1) m = ((runM fet E n (stepM fet E m)).1, (runM fet E n (stepM fet E m)).2 + 1) := by
  show (if m.stt = 0 then _ else _) = _
  rw [if_pos h]
set_option maxRecDepth 100000 in
set_option maxHeartbeats 8000000 in
theorem i_runMachine (I : List ImA) (Bs E : List Int) (a0 a1 a2 : Option Addr) (c0 c1 c2 : Nat) (m : McL) (sv ov : Value) (w : World) (hI : ReadIms w a0 I) (hB : ReadI w a1 Bs) (hE : ReadI w a2 E) (hs : SmlI I Bs E) (hE64 : ∀ e ∈ E, I64 e) (hm : McN m) (hst : w.ownsRow 0 3 1 sv m.st.length (intV m.st)) (hout : w.ownsRow 0 3 1 ov m.out.length (intV m.out)) (h1 : m.st.length ≤ 1048576) (h2 : m.out.length ≤ 2000000) (lim : Int) : Calls Tryz.prog 17 #[.agg #[.slice a0 I.length c0, .slice a1 Bs.length c1, .slice a2 E.length c2], mcA m sv ov, .int .i64 lim] w (RunRM (runZ I Bs E m lim) w) := by
  obtain ⟨sa, sc, rfl⟩ : ∃ a c, sv = .slice a m.st.length c := by
    rcases hst.2 with ⟨rfl, h0⟩ | ⟨g, cap, cur, rfl, _⟩
    · rw [h0]; exact ⟨_, _, rfl⟩
    · exact ⟨_, _, rfl⟩
  obtain ⟨oa, oc, rfl⟩ : ∃ a c, ov = .slice a m.out.length c := by
    rcases hout.2 with ⟨rfl, h0⟩ | ⟨g, cap, cur, rfl, _⟩
    · rw [h0]; exact ⟨_, _, rfl⟩
    · exact ⟨_, _, rfl⟩
  have HM := Lib.hid hm
  have HE := Lib.hid hE64
  have CP : Hid (∀ W, Below w.heap.size w W → Calls Tryz.prog 26 #[mcA m (.slice sa m.st.length sc) (.slice oa m.out.length oc)] W (CopR m W)) := Lib.hid (fun W hb => i_copied m _ _ W (owns_below hst hb) (owns_below hout hb) (by omega) (by omega))
  have SO : Hid (∀ W, Below w.heap.size w W → Calls Tryz.prog 27 #[.agg #[.slice a0 I.length c0, .slice a1 Bs.length c1, .slice a2 E.length c2]] W fun e w' => e = .returned (.bool (spB I Bs E)) ∧ Below W.heap.size W w') := Lib.hid (fun W hb => i_spaceOk I Bs E a0 a1 a2 c0 c1 c2 W (hI.below hb) (hB.below hb) (hE.below hb) hs)
  have HR : Hid (∀ W, Below w.heap.size w W → ReadIms W a0 I ∧ ReadI W a1 Bs ∧ ReadI W a2 E) := Lib.hid (fun W hb => ⟨hI.below hb, hB.below hb, hE.below hb⟩)
  obtain ⟨sn, hsn⟩ : ∃ x, m.st.length = x := ⟨_, rfl⟩
  obtain ⟨on, hon⟩ : ∃ x, m.out.length = x := ⟨_, rfl⟩
  have MO : Hid (∀ (xa ya : Option Addr) (xc yn yc : Nat) (W : World), Calls Tryz.prog 28 #[mcA m (.slice xa sn xc) (.slice ya yn yc)] W fun e w' => e = .returned (.bool (mokB m)) ∧ Below W.heap.size W w') := Lib.hid (fun xa ya xc yn yc W => by rw [← hsn]; exact i_machineOk m xa ya xc yn yc W)
  have HSN := Lib.hid hsn
  have HON := Lib.hid hon
  rw [hsn] at CP ⊢
  rw [hon] at CP ⊢
  have h2' : on ≤ 2000000 := by omega
  clear hst hout hI hB hE hs hm hE64 hsn hon h1 h2
  obtain ⟨pc, sp, fp, st, out, stt, val⟩ := m
  have T3 := Lib.hid (three_new' w (.cells #[.slice a0 I.length c0, .slice a1 Bs.length c1, .slice a2 E.length c2] 34) (.cells #[.int .i64 pc, .int .i64 sp, .int .i64 fp, .slice sa sn sc, .slice oa on oc, .int .i64 stt, .int .i64 val] 30) (.cells #[.int .i64 0, .int .i64 0, .int .i64 0, .slice none 0 0, .slice none 0 0, .int .i64 0, .int .i64 0] 30))
  obtain ⟨W0, hW0⟩ : ∃ W, ((w.alloc (.cells #[.slice a0 I.length c0, .slice a1 Bs.length c1, .slice a2 E.length c2] 34)).alloc (.cells #[.int .i64 pc, .int .i64 sp, .int .i64 fp, .slice sa sn sc, .slice oa on oc, .int .i64 stt, .int .i64 val] 30)).alloc (.cells #[.int .i64 0, .int .i64 0, .int .i64 0, .slice none 0 0, .slice none 0 0, .int .i64 0, .int .i64 0] 30) = W := ⟨_, rfl⟩
  rw [hW0] at T3
  have HW0 := Lib.hid hW0
  have HZ0 : Hid (w.heap.size + 3 ≤ W0.heap.size) := Lib.hid (by have := T3.out.2.2.2.1; omega)
  have HB0 : Hid (Below w.heap.size w W0) := Lib.hid T3.out.2.2.2.2
  obtain ⟨P0, P1, P2⟩ : Hid (W0.heap[w.heap.size]? = some (.cells #[.slice a0 I.length c0, .slice a1 Bs.length c1, .slice a2 E.length c2] 34 (0, 0))) ∧ Hid (W0.heap[w.heap.size + 1]? = some (.cells #[.int .i64 pc, .int .i64 sp, .int .i64 fp, .slice sa sn sc, .slice oa on oc, .int .i64 stt, .int .i64 val] 30 (0, 0))) ∧ Hid (W0.heap[w.heap.size + 2]? = some (.cells #[.int .i64 0, .int .i64 0, .int .i64 0, .slice none 0 0, .slice none 0 0, .int .i64 0, .int .i64 0] 30 (0, 0))) := ⟨Lib.hid T3.out.1, Lib.hid T3.out.2.1, Lib.hid T3.out.2.2.1⟩
  unfold mcA mcRow at CP MO
  unfold mcA mcRow
  dsimp only at CP MO ⊢
  clear hW0 T3
  go_enter Tryz.func17, Tryz.ntmps17
  go_upto_region 1 with fail
  rw [HW0.out]
  obtain ⟨⟨q0, q1, q2, q3, q4, q5, q6⟩, gq, lq⟩ := res_cells7 P1.out
  go_wp2_with fail
  refine (CP.out _ HB0.out).mono ?_
  rintro e w1 ⟨v1, v2, rfl, O1, O2, AP, b1⟩
  dsimp only at O1 O2
  rw [show st.length = sn from HSN.out] at O1
  rw [show out.length = on from HON.out] at O2
  obtain ⟨x1, y1, rfl⟩ := owns_shape O1
  obtain ⟨x2, y2, rfl⟩ := owns_shape O2
  unfold mcA mcRow
  dsimp only
  have HO1 := Lib.hid O1
  have HO2 := Lib.hid O2
  have HAP := Lib.hid AP
  have B1 : Hid (Below W0.heap.size W0 w1) := Lib.hid b1
  have Q0 := Lib.hid ((b1.block _ (blk P0.out).2.2).trans P0.out)
  have Q1 := Lib.hid ((b1.block _ (blk P1.out).2.2).trans P1.out)
  have Q2 := Lib.hid ((b1.block _ (blk P2.out).2.2).trans P2.out)
  clear b1 O1 O2 AP q0 q1 q2 q3 q4 q5 q6 gq lq P0 P1 P2
  obtain ⟨⟨q0, q1, q2, q3, q4, q5, q6⟩, gq, lq⟩ := res_cells7 Q1.out
  obtain ⟨W2, hW2⟩ : ∃ W, ((((((w1.setCell ⟨w.heap.size + 1, 0, none⟩ (.int .i64 pc)).setCell ⟨w.heap.size + 1, 1, none⟩ (.int .i64 sp)).setCell ⟨w.heap.size + 1, 2, none⟩ (.int .i64 fp)).setCell ⟨w.heap.size + 1, 3, none⟩ (.slice x1 sn y1)).setCell ⟨w.heap.size + 1, 4, none⟩ (.slice x2 on y2)).setCell ⟨w.heap.size + 1, 5, none⟩ (.int .i64 stt)).setCell ⟨w.heap.size + 1, 6, none⟩ (.int .i64 val) = W := ⟨_, rfl⟩
  have R0 : Hid (W2.heap[w.heap.size]? = some (.cells #[.slice a0 I.length c0, .slice a1 Bs.length c1, .slice a2 E.length c2] 34 (0, 0))) := Lib.hid (by rw [← hW2]; exact (set7_other (by omega) _ _ _ _ _ _ _).trans Q0.out)
  have R1 : Hid (W2.heap[w.heap.size + 1]? = some (.cells #[.int .i64 pc, .int .i64 sp, .int .i64 fp, .slice x1 sn y1, .slice x2 on y2, .int .i64 stt, .int .i64 val] 30 (0, 0))) := Lib.hid (by rw [← hW2]; exact set7_row Q1.out _ _ _ _ _ _ _)
  have R2 : Hid (W2.heap[w.heap.size + 2]? = some (.cells #[.int .i64 0, .int .i64 0, .int .i64 0, .slice none 0 0, .slice none 0 0, .int .i64 0, .int .i64 0] 30 (0, 0))) := Lib.hid (by rw [← hW2]; exact (set7_other (by omega) _ _ _ _ _ _ _).trans Q2.out)
  have HB2 : Hid (Below w.heap.size w W2) := Lib.hid (by rw [← hW2]; exact set7_below (HB0.out.trans (B1.out.mono (by have := HZ0.out; omega))) (by omega) _ _ _ _ _ _ _)
  have V1 : Hid (W2.ownsRow (w.heap.size + 3) 3 1 (.slice x1 sn y1) sn (intV st)) := Lib.hid (by rw [← hW2]; have hz := HZ0.out; exact owns_set (owns_set (owns_set (owns_set (owns_set (owns_set (owns_set (owns_lo HO1.out hz) (by omega)) (by omega)) (by omega)) (by omega)) (by omega)) (by omega)) (by omega))
  have V2 : Hid (W2.ownsRow (w.heap.size + 3) 3 1 (.slice x2 on y2) on (intV out)) := Lib.hid (by rw [← hW2]; have hz := HZ0.out; exact owns_set (owns_set (owns_set (owns_set (owns_set (owns_set (owns_set (owns_lo HO2.out hz) (by omega)) (by omega)) (by omega)) (by omega)) (by omega)) (by omega)) (by omega))
  have HW2 := Lib.hid hW2
  clear hW2
  go_upto_region 2 with fail
  rw [HW2.out]
  clear q0 q1 q2 q3 q4 q5 q6 gq lq Q0 Q1 Q2 HO1 HO2 B1
  obtain ⟨s0, s1, s2⟩ := cells3s' R0.out
  cases hsp : spB I Bs E with
  | false =>
    have HQ : Hid (runZ I Bs E ⟨pc, sp, fp, st, out, stt, val⟩ lim = (⟨pc, sp, fp, st, out, stt, val⟩, 0)) := Lib.hid (by unfold runZ; rw [if_neg (by rw [hsp]; simp)])
    rw [hsp] at SO
    clear hsp
    go_wp2_with fail
    refine (SO.out _ HB2.out).mono ?_
    rintro e w3 ⟨rfl, b3⟩
    have B3 := Lib.hid b3
    have R0' := Lib.hid ((B3.out.block _ (blk R0.out).2.2).trans R0.out)
    have R1' := Lib.hid ((B3.out.block _ (blk R1.out).2.2).trans R1.out)
    have R2' := Lib.hid ((B3.out.block _ (blk R2.out).2.2).trans R2.out)
    have V1' := Lib.hid (owns_below V1.out B3.out)
    have V2' := Lib.hid (owns_below V2.out B3.out)
    have HB2' : Hid (Below w.heap.size w w3) := Lib.hid (HB2.out.trans (B3.out.mono HB2.out.size))
    clear R0 R1 R2 V1 V2 HB2 B3 b3 s0 s1 s2
    have R0 := R0'
    have R1 := R1'
    have R2 := R2'
    have V1 := V1'
    have V2 := V2'
    have HB2 := HB2'
    clear R0' R1' R2' V1' V2' HB2'
    obtain ⟨s0, s1, s2⟩ := cells3s' R0.out
    obtain ⟨⟨q0, q1, q2, q3, q4, q5, q6⟩, _, _⟩ := res_cells7 R1.out
    obtain ⟨⟨z0, z1, z2, z3, z4, z5, z6⟩, gz, lz⟩ := res_cells7 R2.out
    go_wp2
    refine bodyPost_ret (v := .tuple #[.agg #[.int .i64 pc, .int .i64 sp, .int .i64 fp, .slice x1 sn y1, .slice x2 on y2, .int .i64 stt, .int .i64 val], .int .i64 0]) (by simp [results, Tryz.results17, go_sem, z0, z1, z2, z3, z4, z5, z6]) rfl ?_
    rw [HQ.out]
    refine ⟨_, _, rfl, ?_, ?_, HAP.out, ?_⟩
    · dsimp only; rw [show st.length = sn from HSN.out]; exact owns_lo (own7 V1.out (ne_types V1.out R2.out (by decide))) (by omega)
    · dsimp only; rw [show out.length = on from HON.out]; exact owns_lo (own7 V2.out (ne_types V2.out R2.out (by decide))) (by omega)
    · exact ((((((HB2.out.setCell (by show w.heap.size ≤ w.heap.size + 1 + 1; omega) _).setCell (by show w.heap.size ≤ w.heap.size + 1 + 1; omega) _).setCell (by show w.heap.size ≤ w.heap.size + 1 + 1; omega) _).setCell (by show w.heap.size ≤ w.heap.size + 1 + 1; omega) _).setCell (by show w.heap.size ≤ w.heap.size + 1 + 1; omega) _).setCell (by show w.heap.size ≤ w.heap.size + 1 + 1; omega) _).setCell (by show w.heap.size ≤ w.heap.size + 1 + 1; omega) _
  | true =>
    have HSP := Lib.hid hsp
    rw [hsp] at SO
    clear hsp
    cases hmk : mokB ⟨pc, sp, fp, st, out, stt, val⟩ with
    | false =>
      have HQ : Hid (runZ I Bs E ⟨pc, sp, fp, st, out, stt, val⟩ lim = (⟨pc, sp, fp, st, out, stt, val⟩, 0)) := Lib.hid (by unfold runZ; rw [if_neg (by rw [hmk]; simp)])
      rw [hmk] at MO
      clear hmk
      go_wp2_with fail
      refine (SO.out _ HB2.out).mono ?_
      rintro e w3 ⟨rfl, b3⟩
      have B3 := Lib.hid b3
      have R0' := Lib.hid ((B3.out.block _ (blk R0.out).2.2).trans R0.out)
      have R1' := Lib.hid ((B3.out.block _ (blk R1.out).2.2).trans R1.out)
      have R2' := Lib.hid ((B3.out.block _ (blk R2.out).2.2).trans R2.out)
      have V1' := Lib.hid (owns_below V1.out B3.out)
      have V2' := Lib.hid (owns_below V2.out B3.out)
      have HB2' : Hid (Below w.heap.size w w3) := Lib.hid (HB2.out.trans (B3.out.mono HB2.out.size))
      clear R0 R1 R2 V1 V2 HB2 B3 b3 s0 s1 s2
      have R0 := R0'
      have R1 := R1'
      have R2 := R2'
      have V1 := V1'
      have V2 := V2'
      have HB2 := HB2'
      clear R0' R1' R2' V1' V2' HB2'
      obtain ⟨s0, s1, s2⟩ := cells3s' R0.out
      obtain ⟨⟨q0, q1, q2, q3, q4, q5, q6⟩, _, _⟩ := res_cells7 R1.out
      go_wp2_with fail
      refine (MO.out _ _ _ _ _ _).mono ?_
      rintro e w4 ⟨rfl, b4⟩
      clear q0 q1 q2 q3 q4 q5 q6
      have B4 := Lib.hid b4
      have R0' := Lib.hid ((B4.out.block _ (blk R0.out).2.2).trans R0.out)
      have R1' := Lib.hid ((B4.out.block _ (blk R1.out).2.2).trans R1.out)
      have R2' := Lib.hid ((B4.out.block _ (blk R2.out).2.2).trans R2.out)
      have V1' := Lib.hid (owns_below V1.out B4.out)
      have V2' := Lib.hid (owns_below V2.out B4.out)
      have HB2' : Hid (Below w.heap.size w w4) := Lib.hid (HB2.out.trans (B4.out.mono HB2.out.size))
      clear R0 R1 R2 V1 V2 HB2 B4 b4 s0 s1 s2
      have R0 := R0'
      have R1 := R1'
      have R2 := R2'
      have V1 := V1'
      have V2 := V2'
      have HB2 := HB2'
      clear R0' R1' R2' V1' V2' HB2'
      obtain ⟨s0, s1, s2⟩ := cells3s' R0.out
      obtain ⟨⟨q0, q1, q2, q3, q4, q5, q6⟩, _, _⟩ := res_cells7 R1.out
      obtain ⟨⟨z0, z1, z2, z3, z4, z5, z6⟩, gz, lz⟩ := res_cells7 R2.out
      go_wp2
      refine bodyPost_ret (v := .tuple #[.agg #[.int .i64 pc, .int .i64 sp, .int .i64 fp, .slice x1 sn y1, .slice x2 on y2, .int .i64 stt, .int .i64 val], .int .i64 0]) (by simp [results, Tryz.results17, go_sem, z0, z1, z2, z3, z4, z5, z6]) rfl ?_
      rw [HQ.out]
      refine ⟨_, _, rfl, ?_, ?_, HAP.out, ?_⟩
      · dsimp only; rw [show st.length = sn from HSN.out]; exact owns_lo (own7 V1.out (ne_types V1.out R2.out (by decide))) (by omega)
      · dsimp only; rw [show out.length = on from HON.out]; exact owns_lo (own7 V2.out (ne_types V2.out R2.out (by decide))) (by omega)
      · exact ((((((HB2.out.setCell (by show w.heap.size ≤ w.heap.size + 1 + 1; omega) _).setCell (by show w.heap.size ≤ w.heap.size + 1 + 1; omega) _).setCell (by show w.heap.size ≤ w.heap.size + 1 + 1; omega) _).setCell (by show w.heap.size ≤ w.heap.size + 1 + 1; omega) _).setCell (by show w.heap.size ≤ w.heap.size + 1 + 1; omega) _).setCell (by show w.heap.size ≤ w.heap.size + 1 + 1; omega) _).setCell (by show w.heap.size ≤ w.heap.size + 1 + 1; omega) _
    | true =>
      have HMI := Lib.hid (HM.out.is hmk)
      have HMK := Lib.hid hmk
      rw [hmk] at MO
      clear hmk
      go_wp2_with fail
      refine (SO.out _ HB2.out).mono ?_
      rintro e w3 ⟨rfl, b3⟩
      have B3 := Lib.hid b3
      have R0' := Lib.hid ((B3.out.block _ (blk R0.out).2.2).trans R0.out)
      have R1' := Lib.hid ((B3.out.block _ (blk R1.out).2.2).trans R1.out)
      have R2' := Lib.hid ((B3.out.block _ (blk R2.out).2.2).trans R2.out)
      have V1' := Lib.hid (owns_below V1.out B3.out)
      have V2' := Lib.hid (owns_below V2.out B3.out)
      have HB2' : Hid (Below w.heap.size w w3) := Lib.hid (HB2.out.trans (B3.out.mono HB2.out.size))
      clear R0 R1 R2 V1 V2 HB2 B3 b3 s0 s1 s2
      have R0 := R0'
      have R1 := R1'
      have R2 := R2'
      have V1 := V1'
      have V2 := V2'
      have HB2 := HB2'
      clear R0' R1' R2' V1' V2' HB2'
      obtain ⟨s0, s1, s2⟩ := cells3s' R0.out
      obtain ⟨⟨q0, q1, q2, q3, q4, q5, q6⟩, _, _⟩ := res_cells7 R1.out
      go_wp2_with fail
      refine (MO.out _ _ _ _ _ _).mono ?_
      rintro e w4 ⟨rfl, b4⟩
      clear q0 q1 q2 q3 q4 q5 q6
      have B4 := Lib.hid b4
      have R0' := Lib.hid ((B4.out.block _ (blk R0.out).2.2).trans R0.out)
      have R1' := Lib.hid ((B4.out.block _ (blk R1.out).2.2).trans R1.out)
      have R2' := Lib.hid ((B4.out.block _ (blk R2.out).2.2).trans R2.out)
      have V1' := Lib.hid (owns_below V1.out B4.out)
      have V2' := Lib.hid (owns_below V2.out B4.out)
      have HB2' : Hid (Below w.heap.size w w4) := Lib.hid (HB2.out.trans (B4.out.mono HB2.out.size))
      clear R0 R1 R2 V1 V2 HB2 B4 b4 s0 s1 s2
      have R0 := R0'
      have R1 := R1'
      have R2 := R2'
      have V1 := V1'
      have V2 := V2'
      have HB2 := HB2'
      clear R0' R1' R2' V1' V2' HB2'
      obtain ⟨s0, s1, s2⟩ := cells3s' R0.out
      by_cases hl0 : lim < 0
      · have HQ : Hid (runZ I Bs E ⟨pc, sp, fp, st, out, stt, val⟩ lim = (⟨pc, sp, fp, st, out, stt, val⟩, 0)) := Lib.hid (by unfold runZ; rw [if_neg (fun h => by omega)])
        have d0 : decide (lim < 0) = true := decide_eq_true hl0
        clear hl0
        obtain ⟨⟨q0, q1, q2, q3, q4, q5, q6⟩, _, _⟩ := res_cells7 R1.out
        obtain ⟨⟨z0, z1, z2, z3, z4, z5, z6⟩, gz, lz⟩ := res_cells7 R2.out
        go_wp2
        refine bodyPost_ret (v := .tuple #[.agg #[.int .i64 pc, .int .i64 sp, .int .i64 fp, .slice x1 sn y1, .slice x2 on y2, .int .i64 stt, .int .i64 val], .int .i64 0]) (by simp [results, Tryz.results17, go_sem, z0, z1, z2, z3, z4, z5, z6]) rfl ?_
        rw [HQ.out]
        refine ⟨_, _, rfl, ?_, ?_, HAP.out, ?_⟩
        · dsimp only; rw [show st.length = sn from HSN.out]; exact owns_lo (own7 V1.out (ne_types V1.out R2.out (by decide))) (by omega)
        · dsimp only; rw [show out.length = on from HON.out]; exact owns_lo (own7 V2.out (ne_types V2.out R2.out (by decide))) (by omega)
        · exact ((((((HB2.out.setCell (by show w.heap.size ≤ w.heap.size + 1 + 1; omega) _).setCell (by show w.heap.size ≤ w.heap.size + 1 + 1; omega) _).setCell (by show w.heap.size ≤ w.heap.size + 1 + 1; omega) _).setCell (by show w.heap.size ≤ w.heap.size + 1 + 1; omega) _).setCell (by show w.heap.size ≤ w.heap.size + 1 + 1; omega) _).setCell (by show w.heap.size ≤ w.heap.size + 1 + 1; omega) _).setCell (by show w.heap.size ≤ w.heap.size + 1 + 1; omega) _
      by_cases hl1 : 20000 < lim
      · have HQ : Hid (runZ I Bs E ⟨pc, sp, fp, st, out, stt, val⟩ lim = (⟨pc, sp, fp, st, out, stt, val⟩, 0)) := Lib.hid (by unfold runZ; rw [if_neg (fun h => by omega)])
        have d0 : decide (lim < 0) = false := decide_eq_false hl0
        have d1 : decide (20000 < lim) = true := decide_eq_true hl1
        clear hl0 hl1
        obtain ⟨⟨q0, q1, q2, q3, q4, q5, q6⟩, _, _⟩ := res_cells7 R1.out
        obtain ⟨⟨z0, z1, z2, z3, z4, z5, z6⟩, gz, lz⟩ := res_cells7 R2.out
        go_wp2
        refine bodyPost_ret (v := .tuple #[.agg #[.int .i64 pc, .int .i64 sp, .int .i64 fp, .slice x1 sn y1, .slice x2 on y2, .int .i64 stt, .int .i64 val], .int .i64 0]) (by simp [results, Tryz.results17, go_sem, z0, z1, z2, z3, z4, z5, z6]) rfl ?_
        rw [HQ.out]
        refine ⟨_, _, rfl, ?_, ?_, HAP.out, ?_⟩
        · dsimp only; rw [show st.length = sn from HSN.out]; exact owns_lo (own7 V1.out (ne_types V1.out R2.out (by decide))) (by omega)
        · dsimp only; rw [show out.length = on from HON.out]; exact owns_lo (own7 V2.out (ne_types V2.out R2.out (by decide))) (by omega)
        · exact ((((((HB2.out.setCell (by show w.heap.size ≤ w.heap.size + 1 + 1; omega) _).setCell (by show w.heap.size ≤ w.heap.size + 1 + 1; omega) _).setCell (by show w.heap.size ≤ w.heap.size + 1 + 1; omega) _).setCell (by show w.heap.size ≤ w.heap.size + 1 + 1; omega) _).setCell (by show w.heap.size ≤ w.heap.size + 1 + 1; omega) _).setCell (by show w.heap.size ≤ w.heap.size + 1 + 1; omega) _).setCell (by show w.heap.size ≤ w.heap.size + 1 + 1; omega) _
      have d0 : decide (lim < 0) = false := decide_eq_false hl0
      have d1 : decide (20000 < lim) = false := decide_eq_false hl1
      obtain ⟨L, rfl⟩ : ∃ n : Nat, lim = (n : Int) := ⟨lim.toNat, (Int.toNat_of_nonneg (by omega)).symm⟩
      have hL : L ≤ 20000 := by omega
      have HQ0 : Hid (runZ I Bs E ⟨pc, sp, fp, st, out, stt, val⟩ (L : Int) = runM (fetI I Bs) E L ⟨pc, sp, fp, st, out, stt, val⟩) := Lib.hid (by unfold runZ; rw [if_pos ⟨HSP.out, HMK.out, by omega, by omega⟩, Int.toNat_natCast])
      have hsl : sn = 1200 := by rw [← (show st.length = sn from HSN.out)]; exact HMI.out.len
      have MA : Hid (McAt w.heap.size (w.heap.size + 1) w4 (.slice x1 sn y1) (.slice x2 on y2) ⟨pc, sp, fp, st, out, stt, val⟩) := Lib.hid ⟨R1.out, by dsimp only; rw [show st.length = sn from HSN.out]; exact owns_lo V1.out (by omega), HMI.out.len, by dsimp only; rw [show out.length = on from HON.out]; exact owns_lo V2.out (by omega), HAP.out⟩
      have hon2 : (⟨pc, sp, fp, st, out, stt, val⟩ : McL).out.length ≤ on := by dsimp only; rw [show out.length = on from HON.out]; exact Nat.le_refl _
      obtain ⟨m0, hm0⟩ : ∃ x, (⟨pc, sp, fp, st, out, stt, val⟩ : McL) = x := ⟨_, rfl⟩
      rw [hm0] at HQ0 MA HMI hon2
      have HM0 := Lib.hid hm0
      rw [hm0]
      clear hm0 hsl hl0 hl1
      go_wp2_with fail
      go_loopw [8] (fun sv wr => ∃ (k : Nat) (m' : McL) (ov' : Value), sv = .int .i64 (k : Int) ∧ k ≤ L ∧ Hid (runM (fetI I Bs) E L m0 = ((runM (fetI I Bs) E (L - k) m').1, (runM (fetI I Bs) E (L - k) m').2 + k)) ∧ Hid (McAt w.heap.size (w.heap.size + 1) wr (.slice x1 sn y1) ov' m') ∧ Hid (McIs m') ∧ m'.out.length ≤ on + k ∧ Hid (Below w.heap.size w wr) ∧ Hid (wr.heap[w.heap.size]? = some (.cells #[.slice a0 I.length c0, .slice a1 Bs.length c1, .slice a2 E.length c2] 34 (0, 0))) ∧ Hid (wr.heap[w.heap.size + 2]? = some (.cells #[.int .i64 0, .int .i64 0, .int .i64 0, .slice none 0 0, .slice none 0 0, .int .i64 0, .int .i64 0] 30 (0, 0)))) (fun sv _ => L - (RowKit.intOf sv).toNat)
      case atStart => exact ⟨0, m0, _, rfl, Nat.zero_le _, Lib.hid rfl, MA, HMI, hon2, HB2, R0, R2⟩
      case round =>
        clear s0 s1 s2
        obtain ⟨k, m', ov', rfl, hk, HRU, MA, HMI, hout, HBW, Z0, Z2⟩ := hrel
        obtain ⟨_, _, _, _, _, m5, _, _⟩ := MA.out.cells
        obtain ⟨s0, s1, s2⟩ := cells3s' Z0.out
        by_cases h0 : m'.stt = 0
        · by_cases hkl : k < L
          · have ST := Lib.hid (i_stepI I Bs E HSP.out a0 a1 a2 c0 c1 c2 w.heap.size (w.heap.size + 1) _ _ _ wr MA.out (by omega) HMI.out (by omega) HE.out (fun W hb => HR.out W (HBW.out.trans hb)))
            have HMN := Lib.hid (step_isI HSP.out HE.out HMI.out)
            have hon3 := step_out (fet := fetI I Bs) (E := E) (m := m')
            have HRN : Hid (runM (fetI I Bs) E L m0 = ((runM (fetI I Bs) E (L - (k + 1)) (stepM (fetI I Bs) E m')).1, (runM (fetI I Bs) E (L - (k + 1)) (stepM (fetI I Bs) E m')).2 + (k + 1))) := Lib.hid (by
              rw [HRU.out, show L - k = (L - (k + 1)) + 1 from by omega, runM_go h0]
              show (_, _) = (_, _)
              congr 1
              omega)
            obtain ⟨mn, hmn⟩ : ∃ x, stepM (fetI I Bs) E m' = x := ⟨_, rfl⟩
            rw [hmn] at ST HMN HRN hon3
            rw [h0] at m5
            clear h0 hmn
            go_wp2_with fail
            refine ST.out.mono ?_
            rintro e w5 ⟨rfl, ov5, MA5, S5⟩
            have HBA : Hid (Below w.heap.size wr w5) := Lib.hid (S5.out.base (by have := MA.out.lt; omega) (by omega) (fun v hv g hg => by
              simp only [List.mem_cons, List.not_mem_nil, or_false] at hv
              rcases hv with rfl | rfl
              · exact (MA.out.st.lt g hg).1
              · exact (MA.out.out.lt g hg).1))
            have kp : ∀ {b T : Nat} {cs : Array Value}, b ≠ w.heap.size + 1 → T ≠ 3 → wr.heap[b]? = some (.cells cs T (0, 0)) → w5.heap[b]? = some (.cells cs T (0, 0)) := fun hb hT hc => S5.out.keep hc hb (fun u hu => by
              simp only [List.mem_cons, List.not_mem_nil, or_false] at hu
              rcases hu with rfl | rfl
              · exact ne_types MA.out.st hc (fun e => hT e.symm)
              · exact ne_types MA.out.out hc (fun e => hT e.symm))
            have Z0' := Lib.hid (kp (by omega) (by decide) Z0.out)
            have Z2' := Lib.hid (kp (by omega) (by decide) Z2.out)
            clear kp
            go_wp2
            go_roundw
            case rel => exact ⟨k + 1, mn, ov5, by go_num, by omega, HRN, MA5, HMN, by omega, Lib.hid (HBW.out.trans HBA.out), Z0', Z2'⟩
            case measure => simp [RowKit.intOf]; omega
          · have hkk : k = L := by omega
            have HQ : Hid (runZ I Bs E m0 (L : Int) = (m', k)) := Lib.hid (by rw [HQ0.out, HRU.out, show L - k = 0 from by omega]; show (m', 0 + k) = _; rw [Nat.zero_add])
            have HST0 := Lib.hid h0
            clear h0 hkk m5
            obtain ⟨pc', sp', fp', st', out', stt', val'⟩ := m'
            obtain rfl : stt' = 0 := HST0.out
            have hrow := Lib.hid MA.out.mr
            unfold mcRow at hrow
            dsimp only at hrow
            have hou1 := MA.out.out
            dsimp only at hou1
            obtain ⟨x3, y3, rfl⟩ := owns_shape hou1
            have HS1 := Lib.hid MA.out.st
            have HS2 := Lib.hid MA.out.out
            have hap1 := Lib.hid MA.out.ap
            have HN := Lib.hid (And.intro (ne_types HS1.out Z2.out (by decide)) (ne_types HS2.out Z2.out (by decide)))
            dsimp only at HS1 HS2
            clear hou1
            obtain ⟨⟨q0, q1, q2, q3, q4, q5, q6⟩, _, _⟩ := res_cells7 hrow.out
            obtain ⟨⟨z0, z1, z2, z3, z4, z5, z6⟩, gz, lz⟩ := res_cells7 Z2.out
            go_wp2
            refine bodyPost_ret (v := .tuple #[.agg #[.int .i64 pc', .int .i64 sp', .int .i64 fp', .slice x1 sn y1, .slice x3 out'.length y3, .int .i64 0, .int .i64 val'], .int .i64 (k : Int)]) (by simp [results, Tryz.results17, go_sem, z0, z1, z2, z3, z4, z5, z6]) rfl ?_
            rw [HM0.out, HQ.out]
            refine ⟨_, _, rfl, ?_, ?_, hap1.out, ?_⟩
            · exact own7 HS1.out HN.out.1
            · exact own7 HS2.out HN.out.2
            · exact ((((((HBW.out.setCell (by show w.heap.size ≤ w.heap.size + 1 + 1; omega) _).setCell (by show w.heap.size ≤ w.heap.size + 1 + 1; omega) _).setCell (by show w.heap.size ≤ w.heap.size + 1 + 1; omega) _).setCell (by show w.heap.size ≤ w.heap.size + 1 + 1; omega) _).setCell (by show w.heap.size ≤ w.heap.size + 1 + 1; omega) _).setCell (by show w.heap.size ≤ w.heap.size + 1 + 1; omega) _).setCell (by show w.heap.size ≤ w.heap.size + 1 + 1; omega) _
        · have HQ : Hid (runZ I Bs E m0 (L : Int) = (m', k)) := Lib.hid (by rw [HQ0.out, HRU.out, runM_stop h0]; show (m', 0 + k) = _; rw [Nat.zero_add])
          have HST0 := Lib.hid h0
          clear h0 m5
          obtain ⟨pc', sp', fp', st', out', stt', val'⟩ := m'
          have d5 : (stt' == 0) = false := by simpa using HST0.out
          have hrow := Lib.hid MA.out.mr
          unfold mcRow at hrow
          dsimp only at hrow
          have hou1 := MA.out.out
          dsimp only at hou1
          obtain ⟨x3, y3, rfl⟩ := owns_shape hou1
          have HS1 := Lib.hid MA.out.st
          have HS2 := Lib.hid MA.out.out
          have hap1 := Lib.hid MA.out.ap
          have HN := Lib.hid (And.intro (ne_types HS1.out Z2.out (by decide)) (ne_types HS2.out Z2.out (by decide)))
          dsimp only at HS1 HS2
          clear hou1
          obtain ⟨⟨q0, q1, q2, q3, q4, q5, q6⟩, _, _⟩ := res_cells7 hrow.out
          obtain ⟨⟨z0, z1, z2, z3, z4, z5, z6⟩, gz, lz⟩ := res_cells7 Z2.out
          go_wp2
          refine bodyPost_ret (v := .tuple #[.agg #[.int .i64 pc', .int .i64 sp', .int .i64 fp', .slice x1 sn y1, .slice x3 out'.length y3, .int .i64 stt', .int .i64 val'], .int .i64 (k : Int)]) (by simp [results, Tryz.results17, go_sem, z0, z1, z2, z3, z4, z5, z6]) rfl ?_
          rw [HM0.out, HQ.out]
          refine ⟨_, _, rfl, ?_, ?_, hap1.out, ?_⟩
          · exact own7 HS1.out HN.out.1
          · exact own7 HS2.out HN.out.2
          · exact ((((((HBW.out.setCell (by show w.heap.size ≤ w.heap.size + 1 + 1; omega) _).setCell (by show w.heap.size ≤ w.heap.size + 1 + 1; omega) _).setCell (by show w.heap.size ≤ w.heap.size + 1 + 1; omega) _).setCell (by show w.heap.size ≤ w.heap.size + 1 + 1; omega) _).setCell (by show w.heap.size ≤ w.heap.size + 1 + 1; omega) _).setCell (by show w.heap.size ≤ w.heap.size + 1 + 1; omega) _).setCell (by show w.heap.size ≤ w.heap.size + 1 + 1; omega) _
end Go.Proofs.YtakgjlpgcepnkaaGreat
