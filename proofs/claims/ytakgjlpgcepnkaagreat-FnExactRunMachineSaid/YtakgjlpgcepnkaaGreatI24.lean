/- The model's RunMachine; A new row of any length; The laws' own functions on rows of ints: the size, the program's row made of it; The laws' eqIntS. -/
import Derived.Test.YtakgjlpgcepnkaaGreatI15
import Derived.Test.YtakgjlpgcepnkaaGreatI23
import Derived.Test.YtakgjlpgcepnkaaGreatRows
import Derived.Test.YtakgjlpgcepnkaaGreatI00
import Derived.Test.YtakgjlpgcepnkaaGreatI02
import Derived.Laws.MakeOwn
import Derived.Outline
import Derived.Lib.Hide
import Derived.Deep.QuietTactic
import Derived.BigQuiet
import Derived.Below
import Derived.WalkSmall
/-! The model's RunMachine -/
namespace Go.Proofs.YtakgjlpgcepnkaaGreat
open Go.RowKit Go.Lib

set_option maxRecDepth 100000 in
set_option maxHeartbeats 8000000 in
theorem s_runMachine (I : List ImA) (Bs E : List Int) (a0 a1 a2 : Option Addr) (c0 c1 c2 : Nat) (m : McL) (sa oa : Option Addr) (sc oc : Nat) (w : World) (hI : ReadIms w a0 I) (hB : ReadI w a1 Bs) (hE : ReadI w a2 E) (hs : SmlI I Bs E) (hE64 : ∀ e ∈ E, I64 e) (hm : McN m)
    (h1 : w.ownsRow 0 3 1 (.slice sa m.st.length sc) m.st.length (intV m.st)) (h2 : w.ownsRow 0 3 1 (.slice oa m.out.length oc) m.out.length (intV m.out)) (hS : m.st.length ≤ 4000000) (hO : m.out.length ≤ 2000000) (lim : Int) :
    Calls Tryz.prog 16 #[.agg #[.slice a0 I.length c0, .slice a1 Bs.length c1, .slice a2 E.length c2], mcA m (.slice sa m.st.length sc) (.slice oa m.out.length oc), .int .i64 lim] w (RunRM (runZ I Bs E m lim) w) := by
  have CP := Lib.hid (s_copy m (.slice sa m.st.length sc) (.slice oa m.out.length oc))
  have SO := Lib.hid (fun (W : World) (hb : Below w.heap.size w W) => s_spaceOk I Bs E a0 a1 a2 c0 c1 c2 W (hI.below hb) (hB.below hb) (hE.below hb) hs)
  have MO := Lib.hid (fun (W : World) => s_machineOk' m sa oa sc m.out.length oc W)
  have CPR := Lib.hid (fun (W : World) (hb : Below w.heap.size w W) => s_copy m (.slice sa m.st.length sc) (.slice oa m.out.length oc) W (owns_below h1 hb) (owns_below h2 hb) hS (by omega))
  have STP : Hid (spB I Bs E = true → ∀ (m' : McL) (a b : Option Addr) (c d : Nat) (W : World), Below w.heap.size w W → McIs m' → W.ownsRow 0 3 1 (.slice a m'.st.length c) m'.st.length (intV m'.st) → W.ownsRow 0 3 1 (.slice b m'.out.length d) m'.out.length (intV m'.out) → m'.out.length ≤ 4000000 → Calls Tryz.prog 23 #[.agg #[.slice a0 I.length c0, .slice a1 Bs.length c1, .slice a2 E.length c2], mcA m' (.slice a m'.st.length c) (.slice b m'.out.length d)] W (CopS (stepM (fetI I Bs) E m') W)) := Lib.hid (fun hsp m' a b c d W hb hi k1 k2 ho => by
    obtain ⟨x0, x1, b0, b1, rfl, rfl, _, _, hsi⟩ := spB_is hsp
    exact s_step x0 x1 b0 b1 E a0 a1 a2 c0 c1 c2 m' a b c d W (hI.below hb) (hB.below hb) (hE.below hb) hsi (hs.2.2.2.1 x0 (by simp)).1 (hs.2.2.2.1 x1 (by simp)).1 hi k1 k2 ho)
  have ISP : Hid (spB I Bs E = true → ∀ m' : McL, McIs m' → McIs (stepM (fetI I Bs) E m')) := Lib.hid (fun hsp m' hi => step_isI hsp hE64 hi)
  have MIS : Hid (mokB m = true → McIs m) := Lib.hid (fun h => hm.is h)
  have ZN : Hid (¬(spB I Bs E = true ∧ mokB m = true ∧ (decide (0 ≤ lim) && decide (lim ≤ 20000)) = true) → runZ I Bs E m lim = (m, 0)) := Lib.hid (fun h => by unfold runZ; rw [if_neg (fun hh => h ⟨hh.1, hh.2.1, by simp; exact ⟨hh.2.2.1, hh.2.2.2⟩⟩)])
  have ZY : Hid (spB I Bs E = true → mokB m = true → (decide (0 ≤ lim) && decide (lim ≤ 20000)) = true → ∃ L : Nat, lim = (L : Int) ∧ L ≤ 20000 ∧ runZ I Bs E m lim = runM (fetI I Bs) E L m) := Lib.hid (fun h h' h'' => by
    simp only [Bool.and_eq_true, decide_eq_true_eq] at h''
    obtain ⟨L, rfl⟩ := Int.eq_ofNat_of_zero_le h''.1
    exact ⟨L, rfl, by omega, by unfold runZ; rw [if_pos ⟨h, h', h''.1, h''.2⟩]; rfl⟩)
  have LI := Lib.hid (fun W => s_in7n lim 0 20000 W)
  obtain ⟨RES, hR⟩ : ∃ r, runZ I Bs E m lim = r := ⟨_, rfl⟩
  obtain ⟨fet, hfet⟩ : ∃ r, fetI I Bs = r := ⟨_, rfl⟩
  obtain ⟨sb, hsb⟩ : ∃ b, spB I Bs E = b := ⟨_, rfl⟩
  obtain ⟨mb, hmb⟩ : ∃ b, mokB m = b := ⟨_, rfl⟩
  obtain ⟨lb, hlb⟩ : ∃ b, (decide (0 ≤ lim) && decide (lim ≤ 20000)) = b := ⟨_, rfl⟩
  rw [hsb] at SO STP ZN ZY ISP
  rw [hmb] at MO ZN ZY MIS
  rw [hR] at ZN ZY
  rw [hlb] at ZN ZY LI
  rw [hfet] at STP ZY ISP
  rw [hR]
  obtain ⟨n0, hn0⟩ : ∃ x, I.length = x := ⟨_, rfl⟩
  obtain ⟨n1, hn1⟩ : ∃ x, Bs.length = x := ⟨_, rfl⟩
  obtain ⟨n2, hn2⟩ : ∃ x, E.length = x := ⟨_, rfl⟩
  rw [hn0, hn1, hn2] at SO STP
  rw [hn0, hn1, hn2]
  clear hI hB hE hs hm h1 h2 hS hR hfet hsb hmb hlb hn0 hn1 hn2 CP hE64
  obtain ⟨m0, hm0⟩ : ∃ x, m = x := ⟨_, rfl⟩
  have HM0 := Lib.hid hm0
  rw [hm0] at ZN ZY MIS
  obtain ⟨pc, sp, fp, st, out, stt, val⟩ := m
  unfold CopS mcA mcRow at CPR
  unfold mcA mcRow at MO
  unfold mcA mcRow
  dsimp only at CPR MO hO ⊢
  obtain ⟨sn, hsn⟩ : ∃ x, st.length = x := ⟨_, rfl⟩
  obtain ⟨on, hon⟩ : ∃ x, out.length = x := ⟨_, rfl⟩
  rw [hsn] at CPR MO ⊢
  rw [hon] at CPR MO hO ⊢
  have HSN := Lib.hid hsn
  have HON := Lib.hid hon
  have T3 := Lib.hid (three_newS w (.cells #[.slice a0 n0 c0, .slice a1 n1 c1, .slice a2 n2 c2] 34) (.cells #[.int .i64 pc, .int .i64 sp, .int .i64 fp, .slice sa sn sc, .slice oa on oc, .int .i64 stt, .int .i64 val] 30) (.cells #[.int .i64 0, .int .i64 0, .int .i64 0, .slice none 0 0, .slice none 0 0, .int .i64 0, .int .i64 0] 30))
  obtain ⟨W0, hW0⟩ : ∃ W, ((w.alloc (.cells #[.slice a0 n0 c0, .slice a1 n1 c1, .slice a2 n2 c2] 34)).alloc (.cells #[.int .i64 pc, .int .i64 sp, .int .i64 fp, .slice sa sn sc, .slice oa on oc, .int .i64 stt, .int .i64 val] 30)).alloc (.cells #[.int .i64 0, .int .i64 0, .int .i64 0, .slice none 0 0, .slice none 0 0, .int .i64 0, .int .i64 0] 30) = W := ⟨_, rfl⟩
  rw [hW0] at T3
  have HW0 := Lib.hid hW0
  have HZ0 : Hid (w.heap.size + 3 ≤ W0.heap.size) := Lib.hid (by have := T3.out.2.2.2.1; omega)
  have HB0 : Hid (Below w.heap.size w W0) := Lib.hid T3.out.2.2.2.2
  clear hW0 hsn hon hm0
  go_enter Tryz.func16, Tryz.ntmps16
  go_upto_region 1 with fail
  rw [HW0.out]
  obtain ⟨⟨q0, q1, q2, q3, q4, q5, q6⟩, gq, lq⟩ := res7 T3.out.2.1
  go_wp2_with fail
  refine (CPR.out _ HB0.out).mono ?_
  rintro e w1 ⟨v1, v2, rfl, O1, O2, AP, b1⟩
  obtain ⟨x1, y1, rfl⟩ := owns_shape O1
  obtain ⟨x2, y2, rfl⟩ := owns_shape O2
  have HAP := Lib.hid AP
  have HZ1 : Hid (W0.heap.size ≤ w1.heap.size) := Lib.hid b1.size
  have BX : Hid (∀ W, Below (w1.alloc (.cells #[.int .i64 pc, .int .i64 sp, .int .i64 fp, .slice x1 sn y1, .slice x2 on y2, .int .i64 stt, .int .i64 val] 30)).heap.size (w1.alloc (.cells #[.int .i64 pc, .int .i64 sp, .int .i64 fp, .slice x1 sn y1, .slice x2 on y2, .int .i64 stt, .int .i64 val] 30)) W → W.heap[w.heap.size]? = some (.cells #[.slice a0 n0 c0, .slice a1 n1 c1, .slice a2 n2 c2] 34 (0, 0)) ∧ W.heap[w.heap.size + 1]? = some (.cells #[.int .i64 pc, .int .i64 sp, .int .i64 fp, .slice sa sn sc, .slice oa on oc, .int .i64 stt, .int .i64 val] 30 (0, 0)) ∧ W.heap[w.heap.size + 2]? = some (.cells #[.int .i64 0, .int .i64 0, .int .i64 0, .slice none 0 0, .slice none 0 0, .int .i64 0, .int .i64 0] 30 (0, 0)) ∧ W.heap[w1.heap.size]? = some (.cells #[.int .i64 pc, .int .i64 sp, .int .i64 fp, .slice x1 sn y1, .slice x2 on y2, .int .i64 stt, .int .i64 val] 30 (0, 0)) ∧ Below w.heap.size w W ∧ Below W0.heap.size W0 W ∧ W.ownsRow W0.heap.size 3 1 (.slice x1 sn y1) sn (intV st) ∧ W.ownsRow W0.heap.size 3 1 (.slice x2 on y2) on (intV out)) := Lib.hid (fun W hb => by
    obtain ⟨t0, t1, t2, t3, t4⟩ := T3.out
    have tz : (w1.alloc (.cells #[.int .i64 pc, .int .i64 sp, .int .i64 fp, .slice x1 sn y1, .slice x2 on y2, .int .i64 stt, .int .i64 val] 30)).heap.size = w1.heap.size + 1 := by simp
    have bc : Below w1.heap.size w1 (w1.alloc (.cells #[.int .i64 pc, .int .i64 sp, .int .i64 fp, .slice x1 sn y1, .slice x2 on y2, .int .i64 stt, .int .i64 val] 30)) := (Below.refl _ _).alloc (Nat.le_refl _) _
    have z1 := b1.size
    have h1 : Below w1.heap.size w1 W := bc.trans (hb.mono (by omega))
    have h0 : Below W0.heap.size W0 W := b1.trans (h1.mono z1)
    exact ⟨(h0.block _ (by omega)).trans t0, (h0.block _ (by omega)).trans t1, (h0.block _ (by omega)).trans t2, (hb.block _ (by omega)).trans (heap_alloc_new w1 _), t4.trans (h0.mono (by omega)), h0, owns_below O1 h1, owns_below O2 h1⟩)
  clear O1 O2 AP b1 q0 q1 q2 q3 q4 q5 q6 gq lq T3 CPR HW0 HB0
  obtain ⟨W1, hW1⟩ : ∃ W, w1.alloc (.cells #[.int .i64 pc, .int .i64 sp, .int .i64 fp, .slice x1 sn y1, .slice x2 on y2, .int .i64 stt, .int .i64 val] 30) = W := ⟨_, rfl⟩
  rw [hW1] at BX
  have HW1 := Lib.hid hW1
  clear hW1
  go_upto_region 3 with fail
  rw [HW1.out]
  obtain ⟨cb, hcb⟩ : ∃ k, w1.heap.size = k := ⟨_, rfl⟩
  rw [hcb] at BX HZ1
  rw [hcb]
  clear hcb HW1
  have hsp := (BX.out _ (Below.refl _ _)).1
  have hw := (BX.out _ (Below.refl _ _)).2.2.2.2.1
  obtain ⟨s0, s1, s2⟩ := cells3t hsp
  have SO1 := Lib.hid (SO.out _ hw)
  clear hsp hw SO
  cases sb with
  | false =>
    have HRES := Lib.hid (ZN.out (fun h => by cases h.1))
    rw [← HM0.out] at HRES
    clear ZN ZY STP MO ISP MIS
    go_wp2_with fail
    refine SO1.out.mono ?_
    rintro e w2 ⟨rfl, b2⟩
    have DB := Lib.hid b2
    clear b2 s0 s1 s2 SO1
    have hr := (BX.out _ DB.out).2.2.1
    have hc := (BX.out _ DB.out).2.2.2.1
    have hw := (BX.out _ DB.out).2.2.2.2.1
    have v1 := (BX.out _ DB.out).2.2.2.2.2.2.1
    have v2 := (BX.out _ DB.out).2.2.2.2.2.2.2
    have QR := Lib.hid hr
    have QC := Lib.hid hc
    have QW := Lib.hid hw
    have QV1 := Lib.hid v1
    have QV2 := Lib.hid v2
    clear hr hc hw v1 v2
    obtain ⟨⟨q0, q1, q2, q3, q4, q5, q6⟩, gq, lq⟩ := res7 QC.out
    obtain ⟨⟨i0, i1, i2, i3, i4, i5, i6⟩, gi, li⟩ := res7 QR.out
    have X2 := Lib.hid (set7_rowS QR.out (.int .i64 pc) (.int .i64 sp) (.int .i64 fp) (.slice x1 sn y1) (.slice x2 on y2) (.int .i64 stt) (.int .i64 val))
    have XB := Lib.hid (set7_belowS (b := w.heap.size + 2) QW.out (by omega) (.int .i64 pc) (.int .i64 sp) (.int .i64 fp) (.slice x1 sn y1) (.slice x2 on y2) (.int .i64 stt) (.int .i64 val))
    obtain ⟨⟨t0, t1, t2, t3, t4, t5, t6⟩, gt, lt⟩ := res7 X2.out
    go_wp2
    refine bodyPost_ret (v := .tuple #[.agg #[.int .i64 pc, .int .i64 sp, .int .i64 fp, .slice x1 sn y1, .slice x2 on y2, .int .i64 stt, .int .i64 val], .int .i64 0]) (by simp [results, Tryz.results16, go_sem, t0, t1, t2, t3, t4, t5, t6]) rfl ?_
    rw [HRES.out]
    refine ⟨_, _, rfl, ?_, ?_, HAP.out, XB.out⟩
    · dsimp only
      rw [HSN.out]
      exact owns_lo (own7s QV1.out (fun e => by have := (QV1.out.lt _ e).1; have := HZ0.out; omega)) (by have := HZ0.out; omega)
    · dsimp only
      rw [HON.out]
      exact owns_lo (own7s QV2.out (fun e => by have := (QV2.out.lt _ e).1; have := HZ0.out; omega)) (by have := HZ0.out; omega)
  | true =>
    go_wp2_with fail
    refine SO1.out.mono ?_
    rintro e w2 ⟨rfl, b2⟩
    have D2 := Lib.hid b2
    clear b2 s0 s1 s2 SO1
    have hq := (BX.out _ D2.out).2.1
    obtain ⟨⟨q0, q1, q2, q3, q4, q5, q6⟩, gq, lq⟩ := res7 hq
    have MO1 := Lib.hid (MO.out w2)
    clear hq MO
    cases mb with
    | false =>
      have HRES := Lib.hid (ZN.out (fun h => by cases h.2.1))
      rw [← HM0.out] at HRES
      clear ZN ZY STP ISP MIS
      go_wp2_with fail
      refine MO1.out.mono ?_
      rintro e w3 ⟨rfl, b3⟩
      have DB : Hid (Below W1.heap.size W1 w3) := Lib.hid (D2.out.trans (b3.mono D2.out.size))
      clear b3 q0 q1 q2 q3 q4 q5 q6 gq lq MO1 D2
      have hr := (BX.out _ DB.out).2.2.1
      have hc := (BX.out _ DB.out).2.2.2.1
      have hw := (BX.out _ DB.out).2.2.2.2.1
      have v1 := (BX.out _ DB.out).2.2.2.2.2.2.1
      have v2 := (BX.out _ DB.out).2.2.2.2.2.2.2
      have QR := Lib.hid hr
      have QC := Lib.hid hc
      have QW := Lib.hid hw
      have QV1 := Lib.hid v1
      have QV2 := Lib.hid v2
      clear hr hc hw v1 v2
      obtain ⟨⟨q0, q1, q2, q3, q4, q5, q6⟩, gq, lq⟩ := res7 QC.out
      obtain ⟨⟨i0, i1, i2, i3, i4, i5, i6⟩, gi, li⟩ := res7 QR.out
      have X2 := Lib.hid (set7_rowS QR.out (.int .i64 pc) (.int .i64 sp) (.int .i64 fp) (.slice x1 sn y1) (.slice x2 on y2) (.int .i64 stt) (.int .i64 val))
      have XB := Lib.hid (set7_belowS (b := w.heap.size + 2) QW.out (by omega) (.int .i64 pc) (.int .i64 sp) (.int .i64 fp) (.slice x1 sn y1) (.slice x2 on y2) (.int .i64 stt) (.int .i64 val))
      obtain ⟨⟨t0, t1, t2, t3, t4, t5, t6⟩, gt, lt⟩ := res7 X2.out
      go_wp2
      refine bodyPost_ret (v := .tuple #[.agg #[.int .i64 pc, .int .i64 sp, .int .i64 fp, .slice x1 sn y1, .slice x2 on y2, .int .i64 stt, .int .i64 val], .int .i64 0]) (by simp [results, Tryz.results16, go_sem, t0, t1, t2, t3, t4, t5, t6]) rfl ?_
      rw [HRES.out]
      refine ⟨_, _, rfl, ?_, ?_, HAP.out, XB.out⟩
      · dsimp only
        rw [HSN.out]
        exact owns_lo (own7s QV1.out (fun e => by have := (QV1.out.lt _ e).1; have := HZ0.out; omega)) (by have := HZ0.out; omega)
      · dsimp only
        rw [HON.out]
        exact owns_lo (own7s QV2.out (fun e => by have := (QV2.out.lt _ e).1; have := HZ0.out; omega)) (by have := HZ0.out; omega)
    | true =>
      cases lb with
      | false =>
        have HRES := Lib.hid (ZN.out (fun h => by cases h.2.2))
        rw [← HM0.out] at HRES
        clear ZN ZY STP ISP MIS
        go_wp2_with fail
        refine MO1.out.mono ?_
        rintro e w3 ⟨rfl, b3⟩
        have DB : Hid (Below W1.heap.size W1 w3) := Lib.hid (D2.out.trans (b3.mono D2.out.size))
        clear b3 q0 q1 q2 q3 q4 q5 q6 gq lq MO1 D2
        go_wp2_with fail
        refine (LI.out _).mono ?_
        rintro e w4 ⟨rfl, rfl⟩
        have hr := (BX.out _ DB.out).2.2.1
        have hc := (BX.out _ DB.out).2.2.2.1
        have hw := (BX.out _ DB.out).2.2.2.2.1
        have v1 := (BX.out _ DB.out).2.2.2.2.2.2.1
        have v2 := (BX.out _ DB.out).2.2.2.2.2.2.2
        have QR := Lib.hid hr
        have QC := Lib.hid hc
        have QW := Lib.hid hw
        have QV1 := Lib.hid v1
        have QV2 := Lib.hid v2
        clear hr hc hw v1 v2
        obtain ⟨⟨q0, q1, q2, q3, q4, q5, q6⟩, gq, lq⟩ := res7 QC.out
        obtain ⟨⟨i0, i1, i2, i3, i4, i5, i6⟩, gi, li⟩ := res7 QR.out
        have X2 := Lib.hid (set7_rowS QR.out (.int .i64 pc) (.int .i64 sp) (.int .i64 fp) (.slice x1 sn y1) (.slice x2 on y2) (.int .i64 stt) (.int .i64 val))
        have XB := Lib.hid (set7_belowS (b := w.heap.size + 2) QW.out (by omega) (.int .i64 pc) (.int .i64 sp) (.int .i64 fp) (.slice x1 sn y1) (.slice x2 on y2) (.int .i64 stt) (.int .i64 val))
        obtain ⟨⟨t0, t1, t2, t3, t4, t5, t6⟩, gt, lt⟩ := res7 X2.out
        go_wp2
        refine bodyPost_ret (v := .tuple #[.agg #[.int .i64 pc, .int .i64 sp, .int .i64 fp, .slice x1 sn y1, .slice x2 on y2, .int .i64 stt, .int .i64 val], .int .i64 0]) (by simp [results, Tryz.results16, go_sem, t0, t1, t2, t3, t4, t5, t6]) rfl ?_
        rw [HRES.out]
        refine ⟨_, _, rfl, ?_, ?_, HAP.out, XB.out⟩
        · dsimp only
          rw [HSN.out]
          exact owns_lo (own7s QV1.out (fun e => by have := (QV1.out.lt _ e).1; have := HZ0.out; omega)) (by have := HZ0.out; omega)
        · dsimp only
          rw [HON.out]
          exact owns_lo (own7s QV2.out (fun e => by have := (QV2.out.lt _ e).1; have := HZ0.out; omega)) (by have := HZ0.out; omega)
      | true =>
        obtain ⟨L, hL, hL2, hrz⟩ := ZY.out (by trivial) (by trivial) (by trivial)
        subst hL
        have HRZ := Lib.hid hrz
        have ST := Lib.hid (STP.out (by trivial))
        have IS := Lib.hid (ISP.out (by trivial))
        have MI := Lib.hid (MIS.out (by trivial))
        clear hrz ZN ZY STP ISP MIS
        go_wp2_with fail
        refine MO1.out.mono ?_
        rintro e w3 ⟨rfl, b3⟩
        have DB : Hid (Below W1.heap.size W1 w3) := Lib.hid (D2.out.trans (b3.mono D2.out.size))
        clear b3 q0 q1 q2 q3 q4 q5 q6 gq lq MO1 D2
        go_wp2_with fail
        refine (LI.out _).mono ?_
        rintro e w4 ⟨rfl, rfl⟩
        have LOOP0 := Lib.hid (BX.out _ DB.out)
        clear BX LI DB
        go_wp2_with fail
        go_loopw [9] (fun kv wr => ∃ (k : Nat) (pc' sp' fp' : Int) (st' out' : List Int) (stt' val' : Int) (d1 d2 : Option Addr) (e1 e2 : Nat), kv = .int .i64 (k : Int) ∧ k ≤ L ∧ Hid (RES = ((runM fet E (L - k) ⟨pc', sp', fp', st', out', stt', val'⟩).1, (runM fet E (L - k) ⟨pc', sp', fp', st', out', stt', val'⟩).2 + k)) ∧ Hid (McIs ⟨pc', sp', fp', st', out', stt', val'⟩) ∧ out'.length ≤ on + k ∧ Hid (wr.heap[w.heap.size]? = some (.cells #[.slice a0 n0 c0, .slice a1 n1 c1, .slice a2 n2 c2] 34 (0, 0)) ∧ wr.heap[w.heap.size + 2]? = some (.cells #[.int .i64 0, .int .i64 0, .int .i64 0, .slice none 0 0, .slice none 0 0, .int .i64 0, .int .i64 0] 30 (0, 0)) ∧ wr.heap[cb]? = some (.cells #[.int .i64 pc', .int .i64 sp', .int .i64 fp', .slice d1 st'.length e1, .slice d2 out'.length e2, .int .i64 stt', .int .i64 val'] 30 (0, 0)) ∧ Below w.heap.size w wr ∧ W0.heap.size ≤ wr.heap.size) ∧ Hid (wr.ownsRow W0.heap.size 3 1 (.slice d1 st'.length e1) st'.length (intV st')) ∧ Hid (wr.ownsRow W0.heap.size 3 1 (.slice d2 out'.length e2) out'.length (intV out')) ∧ Hid (Ap (.slice d1 st'.length e1) (.slice d2 out'.length e2))) (fun kv _ => L - (RowKit.intOf kv).toNat)
        case atStart =>
          obtain ⟨l0, l1, l2, l3, l4, l5, l6, l7⟩ := LOOP0.out
          exact ⟨0, pc, sp, fp, st, out, stt, val, x1, x2, y1, y2, rfl, Nat.zero_le _, Lib.hid (by rw [HM0.out]; exact HRZ.out), Lib.hid (by rw [HM0.out]; exact MI.out), (by rw [show out.length = on from HON.out]; exact Nat.le_refl _), Lib.hid ⟨l0, l2, by rw [show st.length = sn from HSN.out, show out.length = on from HON.out]; exact l3, l4, l5.size⟩, Lib.hid (by rw [show st.length = sn from HSN.out]; exact l6), Lib.hid (by rw [show out.length = on from HON.out]; exact l7), Lib.hid (by rw [show st.length = sn from HSN.out, show out.length = on from HON.out]; exact HAP.out)⟩
        case round =>
          obtain ⟨k, pc', sp', fp', st', out', stt', val', d1, d2, e1, e2, rfl, hk, HRU, HI, hout, ALL, V1, V2, VA⟩ := hrel
          clear LOOP0
          obtain ⟨hsp, hres, hcbr, _⟩ := ALL.out
          have QR := Lib.hid hres
          have QC := Lib.hid hcbr
          have QW := Lib.hid ALL.out.2.2.2.1
          obtain ⟨s0, s1, s2⟩ := cells3t hsp
          clear hsp hres hcbr
          by_cases h0 : stt' = 0
          · subst h0
            by_cases hkl : k < L
            · obtain ⟨⟨q0, q1, q2, q3, q4, q5, q6⟩, gq, lq⟩ := res7 QC.out
              have HRN : Hid (RES = ((runM fet E (L - (k + 1)) (stepM fet E ⟨pc', sp', fp', st', out', 0, val'⟩)).1, (runM fet E (L - (k + 1)) (stepM fet E ⟨pc', sp', fp', st', out', 0, val'⟩)).2 + (k + 1))) := Lib.hid (by
                rw [HRU.out, show L - k = (L - (k + 1)) + 1 from by omega, runM_go rfl]
                show (_, _) = (_, _)
                congr 1
                omega)
              have hon3 := step_out (fet := fet) (E := E) (m := ⟨pc', sp', fp', st', out', 0, val'⟩)
              have HIN := Lib.hid (IS.out _ HI.out)
              have STK := Lib.hid (ST.out ⟨pc', sp', fp', st', out', 0, val'⟩ d1 d2 e1 e2 wr QW.out HI.out (owns_lo V1.out (Nat.zero_le _)) (owns_lo V2.out (Nat.zero_le _)) (by dsimp only; omega))
              obtain ⟨mn, hmn⟩ : ∃ x, stepM fet E ⟨pc', sp', fp', st', out', 0, val'⟩ = x := ⟨_, rfl⟩
              rw [hmn] at HRN hon3 HIN STK
              unfold CopS mcA mcRow at STK
              clear hmn
              obtain ⟨pc2, sp2, fp2, st2, out2, stt2, val2⟩ := mn
              dsimp only at STK hon3
              go_wp2_with fail
              refine STK.out.mono ?_
              rintro e w5 ⟨u1, u2, rfl, O1, O2, AP, b5⟩
              obtain ⟨f1, g1, rfl⟩ := owns_shape O1
              obtain ⟨f2, g2, rfl⟩ := owns_shape O2
              have zz := ALL.out.2.2.2.2
              have D0 := Lib.hid ((b5.block _ (by have := HZ0.out; omega)).trans ALL.out.1)
              have D2 := Lib.hid ((b5.block _ (by have := HZ0.out; omega)).trans QR.out)
              have DC := Lib.hid ((b5.block _ lq).trans QC.out)
              have DW := Lib.hid (QW.out.trans (b5.mono (by have := HZ0.out; omega)))
              have U1 := Lib.hid (owns_lo O1 zz)
              have U2 := Lib.hid (owns_lo O2 zz)
              have UA := Lib.hid AP
              have N1 := Lib.hid (ne_types O1 DC.out (by decide))
              have N2 := Lib.hid (ne_types O2 DC.out (by decide))
              have z5 := b5.size
              have HC0 : Hid (w.heap.size + 3 ≤ cb) := Lib.hid (by have := HZ0.out; have := HZ1.out; omega)
              clear O1 O2 AP b5 q0 q1 q2 q3 q4 q5 q6 gq lq s0 s1 s2 STK
              obtain ⟨⟨q0, q1, q2, q3, q4, q5, q6⟩, gq, lq⟩ := res7 DC.out
              have hc3 := HC0.out
              have FIN : Hid ((((((((w5.setCell ⟨cb, 0, none⟩ (.int .i64 pc2)).setCell ⟨cb, 1, none⟩ (.int .i64 sp2)).setCell ⟨cb, 2, none⟩ (.int .i64 fp2)).setCell ⟨cb, 3, none⟩ (.slice f1 st2.length g1)).setCell ⟨cb, 4, none⟩ (.slice f2 out2.length g2)).setCell ⟨cb, 5, none⟩ (.int .i64 stt2)).setCell ⟨cb, 6, none⟩ (.int .i64 val2)).heap[w.heap.size]? = some (.cells #[.slice a0 n0 c0, .slice a1 n1 c1, .slice a2 n2 c2] 34 (0, 0)) ∧ (((((((w5.setCell ⟨cb, 0, none⟩ (.int .i64 pc2)).setCell ⟨cb, 1, none⟩ (.int .i64 sp2)).setCell ⟨cb, 2, none⟩ (.int .i64 fp2)).setCell ⟨cb, 3, none⟩ (.slice f1 st2.length g1)).setCell ⟨cb, 4, none⟩ (.slice f2 out2.length g2)).setCell ⟨cb, 5, none⟩ (.int .i64 stt2)).setCell ⟨cb, 6, none⟩ (.int .i64 val2)).heap[w.heap.size + 2]? = some (.cells #[.int .i64 0, .int .i64 0, .int .i64 0, .slice none 0 0, .slice none 0 0, .int .i64 0, .int .i64 0] 30 (0, 0)) ∧ (((((((w5.setCell ⟨cb, 0, none⟩ (.int .i64 pc2)).setCell ⟨cb, 1, none⟩ (.int .i64 sp2)).setCell ⟨cb, 2, none⟩ (.int .i64 fp2)).setCell ⟨cb, 3, none⟩ (.slice f1 st2.length g1)).setCell ⟨cb, 4, none⟩ (.slice f2 out2.length g2)).setCell ⟨cb, 5, none⟩ (.int .i64 stt2)).setCell ⟨cb, 6, none⟩ (.int .i64 val2)).heap[cb]? = some (.cells #[.int .i64 pc2, .int .i64 sp2, .int .i64 fp2, .slice f1 st2.length g1, .slice f2 out2.length g2, .int .i64 stt2, .int .i64 val2] 30 (0, 0)) ∧ Below w.heap.size w (((((((w5.setCell ⟨cb, 0, none⟩ (.int .i64 pc2)).setCell ⟨cb, 1, none⟩ (.int .i64 sp2)).setCell ⟨cb, 2, none⟩ (.int .i64 fp2)).setCell ⟨cb, 3, none⟩ (.slice f1 st2.length g1)).setCell ⟨cb, 4, none⟩ (.slice f2 out2.length g2)).setCell ⟨cb, 5, none⟩ (.int .i64 stt2)).setCell ⟨cb, 6, none⟩ (.int .i64 val2)) ∧ W0.heap.size ≤ (((((((w5.setCell ⟨cb, 0, none⟩ (.int .i64 pc2)).setCell ⟨cb, 1, none⟩ (.int .i64 sp2)).setCell ⟨cb, 2, none⟩ (.int .i64 fp2)).setCell ⟨cb, 3, none⟩ (.slice f1 st2.length g1)).setCell ⟨cb, 4, none⟩ (.slice f2 out2.length g2)).setCell ⟨cb, 5, none⟩ (.int .i64 stt2)).setCell ⟨cb, 6, none⟩ (.int .i64 val2)).heap.size) := Lib.hid ⟨(set7_otherS (by omega) (.int .i64 pc2) (.int .i64 sp2) (.int .i64 fp2) (.slice f1 st2.length g1) (.slice f2 out2.length g2) (.int .i64 stt2) (.int .i64 val2)).trans D0.out, (set7_otherS (by omega) (.int .i64 pc2) (.int .i64 sp2) (.int .i64 fp2) (.slice f1 st2.length g1) (.slice f2 out2.length g2) (.int .i64 stt2) (.int .i64 val2)).trans D2.out, set7_rowS DC.out (.int .i64 pc2) (.int .i64 sp2) (.int .i64 fp2) (.slice f1 st2.length g1) (.slice f2 out2.length g2) (.int .i64 stt2) (.int .i64 val2), set7_belowS DW.out (by omega) (.int .i64 pc2) (.int .i64 sp2) (.int .i64 fp2) (.slice f1 st2.length g1) (.slice f2 out2.length g2) (.int .i64 stt2) (.int .i64 val2), by simp [World.setCell]; omega⟩
              have F1 : Hid ((((((((w5.setCell ⟨cb, 0, none⟩ (.int .i64 pc2)).setCell ⟨cb, 1, none⟩ (.int .i64 sp2)).setCell ⟨cb, 2, none⟩ (.int .i64 fp2)).setCell ⟨cb, 3, none⟩ (.slice f1 st2.length g1)).setCell ⟨cb, 4, none⟩ (.slice f2 out2.length g2)).setCell ⟨cb, 5, none⟩ (.int .i64 stt2)).setCell ⟨cb, 6, none⟩ (.int .i64 val2)).ownsRow W0.heap.size 3 1 (.slice f1 st2.length g1) st2.length (intV st2)) := Lib.hid (own7s U1.out N1.out)
              have F2 : Hid ((((((((w5.setCell ⟨cb, 0, none⟩ (.int .i64 pc2)).setCell ⟨cb, 1, none⟩ (.int .i64 sp2)).setCell ⟨cb, 2, none⟩ (.int .i64 fp2)).setCell ⟨cb, 3, none⟩ (.slice f1 st2.length g1)).setCell ⟨cb, 4, none⟩ (.slice f2 out2.length g2)).setCell ⟨cb, 5, none⟩ (.int .i64 stt2)).setCell ⟨cb, 6, none⟩ (.int .i64 val2)).ownsRow W0.heap.size 3 1 (.slice f2 out2.length g2) out2.length (intV out2)) := Lib.hid (own7s U2.out N2.out)
              clear hc3
              go_wp2
              go_roundw
              case rel => exact ⟨k + 1, pc2, sp2, fp2, st2, out2, stt2, val2, f1, f2, g1, g2, by go_num, by omega, HRN, HIN, by omega, FIN, F1, F2, UA⟩
              case measure => simp [RowKit.intOf]; omega
            · have hkk : k = L := by omega
              subst hkk
              have HRES : Hid (RES = (⟨pc', sp', fp', st', out', 0, val'⟩, k)) := Lib.hid (by rw [HRU.out, Nat.sub_self]; exact congrArg (Prod.mk _) (Nat.zero_add k))
              obtain ⟨⟨q0, q1, q2, q3, q4, q5, q6⟩, gq, lq⟩ := res7 QC.out
              obtain ⟨⟨i0, i1, i2, i3, i4, i5, i6⟩, gi, li⟩ := res7 QR.out
              have X2 := Lib.hid (set7_rowS QR.out (.int .i64 pc') (.int .i64 sp') (.int .i64 fp') (.slice d1 st'.length e1) (.slice d2 out'.length e2) (.int .i64 0) (.int .i64 val'))
              have XB := Lib.hid (set7_belowS (b := w.heap.size + 2) QW.out (by omega) (.int .i64 pc') (.int .i64 sp') (.int .i64 fp') (.slice d1 st'.length e1) (.slice d2 out'.length e2) (.int .i64 0) (.int .i64 val'))
              obtain ⟨⟨t0, t1, t2, t3, t4, t5, t6⟩, gt, lt⟩ := res7 X2.out
              go_wp2
              refine bodyPost_ret (v := .tuple #[.agg #[.int .i64 pc', .int .i64 sp', .int .i64 fp', .slice d1 st'.length e1, .slice d2 out'.length e2, .int .i64 0, .int .i64 val'], .int .i64 (k : Int)]) (by simp [results, Tryz.results16, go_sem, t0, t1, t2, t3, t4, t5, t6]) rfl ?_
              rw [HRES.out]
              refine ⟨_, _, rfl, ?_, ?_, VA.out, XB.out⟩
              · dsimp only
                exact owns_lo (own7s V1.out (fun e => by have := (V1.out.lt _ e).1; have := HZ0.out; omega)) (by have := HZ0.out; omega)
              · dsimp only
                exact owns_lo (own7s V2.out (fun e => by have := (V2.out.lt _ e).1; have := HZ0.out; omega)) (by have := HZ0.out; omega)
          · have HRES : Hid (RES = (⟨pc', sp', fp', st', out', stt', val'⟩, k)) := Lib.hid (by rw [HRU.out, runM_stop h0]; exact congrArg (Prod.mk _) (Nat.zero_add k))
            have hd5 : (stt' == 0) = false := by simpa using h0
            clear h0
            by_cases hkl : k < L
            · clear hk
              obtain ⟨⟨q0, q1, q2, q3, q4, q5, q6⟩, gq, lq⟩ := res7 QC.out
              obtain ⟨⟨i0, i1, i2, i3, i4, i5, i6⟩, gi, li⟩ := res7 QR.out
              have X2 := Lib.hid (set7_rowS QR.out (.int .i64 pc') (.int .i64 sp') (.int .i64 fp') (.slice d1 st'.length e1) (.slice d2 out'.length e2) (.int .i64 stt') (.int .i64 val'))
              have XB := Lib.hid (set7_belowS (b := w.heap.size + 2) QW.out (by omega) (.int .i64 pc') (.int .i64 sp') (.int .i64 fp') (.slice d1 st'.length e1) (.slice d2 out'.length e2) (.int .i64 stt') (.int .i64 val'))
              obtain ⟨⟨t0, t1, t2, t3, t4, t5, t6⟩, gt, lt⟩ := res7 X2.out
              go_wp2
              refine bodyPost_ret (v := .tuple #[.agg #[.int .i64 pc', .int .i64 sp', .int .i64 fp', .slice d1 st'.length e1, .slice d2 out'.length e2, .int .i64 stt', .int .i64 val'], .int .i64 (k : Int)]) (by simp [results, Tryz.results16, go_sem, t0, t1, t2, t3, t4, t5, t6]) rfl ?_
              rw [HRES.out]
              refine ⟨_, _, rfl, ?_, ?_, VA.out, XB.out⟩
              · dsimp only
                exact owns_lo (own7s V1.out (fun e => by have := (V1.out.lt _ e).1; have := HZ0.out; omega)) (by have := HZ0.out; omega)
              · dsimp only
                exact owns_lo (own7s V2.out (fun e => by have := (V2.out.lt _ e).1; have := HZ0.out; omega)) (by have := HZ0.out; omega)
            · clear hk
              obtain ⟨⟨q0, q1, q2, q3, q4, q5, q6⟩, gq, lq⟩ := res7 QC.out
              obtain ⟨⟨i0, i1, i2, i3, i4, i5, i6⟩, gi, li⟩ := res7 QR.out
              have X2 := Lib.hid (set7_rowS QR.out (.int .i64 pc') (.int .i64 sp') (.int .i64 fp') (.slice d1 st'.length e1) (.slice d2 out'.length e2) (.int .i64 stt') (.int .i64 val'))
              have XB := Lib.hid (set7_belowS (b := w.heap.size + 2) QW.out (by omega) (.int .i64 pc') (.int .i64 sp') (.int .i64 fp') (.slice d1 st'.length e1) (.slice d2 out'.length e2) (.int .i64 stt') (.int .i64 val'))
              obtain ⟨⟨t0, t1, t2, t3, t4, t5, t6⟩, gt, lt⟩ := res7 X2.out
              go_wp2
              refine bodyPost_ret (v := .tuple #[.agg #[.int .i64 pc', .int .i64 sp', .int .i64 fp', .slice d1 st'.length e1, .slice d2 out'.length e2, .int .i64 stt', .int .i64 val'], .int .i64 (k : Int)]) (by simp [results, Tryz.results16, go_sem, t0, t1, t2, t3, t4, t5, t6]) rfl ?_
              rw [HRES.out]
              refine ⟨_, _, rfl, ?_, ?_, VA.out, XB.out⟩
              · dsimp only
                exact owns_lo (own7s V1.out (fun e => by have := (V1.out.lt _ e).1; have := HZ0.out; omega)) (by have := HZ0.out; omega)
              · dsimp only
                exact owns_lo (own7s V2.out (fun e => by have := (V2.out.lt _ e).1; have := HZ0.out; omega)) (by have := HZ0.out; omega)
end Go.Proofs.YtakgjlpgcepnkaaGreat

/-! A new row of any length. Nothing of the program -/
namespace Go.Proofs.YtakgjlpgcepnkaaGreat
open Go.RowKit Go.Lib

theorem run_make_rowN {P : Program} (t e : TypeId) (i : TypeInfo) (z : Value) (size bytes : Nat) (ht : P.underlying t = some (.slice e)) (hi : P.info? e = some i) (hz : i.zero = some z) (hsz : i.size = size) (hby : i.bytes = bytes)
    (kl kc : IntKind) (n c : Nat) (hnc : n ≤ c) (hbytes : bytes * c ≤ 281474976710656) (h63 : c ≤ 9223372036854775807) (w : World) :
    (Instr.makeSlice t (.int kl (n : Int)) (.int kc (c : Int))).run P w = .ok (.slice (some ⟨w.heap.size, 0, none⟩) n c) (w.alloc (.cells (madeCells z.cells (c * size)) e)) := by
  subst hsz hby
  have hb : (i.bytes : Int) * (c : Int) ≤ 281474976710656 := by
    have h : ((i.bytes * c : Nat) : Int) ≤ 281474976710656 := by omega
    rwa [Int.natCast_mul] at h
  have hr := run_make (P := P) w t e i z ht hi hz kl kc n c (by omega) (by omega) hb (by omega)
  simp only [Int.toNat_natCast] at hr
  exact hr
end Go.Proofs.YtakgjlpgcepnkaaGreat

/-! The laws' own functions on rows of ints: the size, the program's row made of it -/
namespace Go.Proofs.YtakgjlpgcepnkaaGreat
open Go.RowKit Go.Lib

theorem l_szIntS (a : Option Addr) (cap n : Nat) (left : Int) (w : World) (h0 : 0 ≤ left) (h1 : left ≤ 1048576) (hn : n ≤ maxLen) :
    Calls Tryz.prog 19 #[.slice a n cap, .int .i64 left] w fun e w' => ∃ r : Int, e = .returned (.int .i64 r) ∧ w = w' ∧ (r = -1 ∨ (0 ≤ r ∧ r + (n : Int) ≤ left)) := by
  unfold maxLen at hn
  by_cases hbig : left < (n : Int)
  · have hd : decide (left - (n : Int) < 0) = true := by simp; omega
    go_enter Tryz.func19, Tryz.ntmps19
    go_wp2
    all_goals go_ret
    all_goals exact ⟨-1, rfl, rfl, .inl rfl⟩
  · have hd : decide (left - (n : Int) < 0) = false := by simp; omega
    go_enter Tryz.func19, Tryz.ntmps19
    go_wp2
    all_goals go_ret
    all_goals exact ⟨left - (n : Int), rfl, rfl, .inr ⟨by omega, by omega⟩⟩
theorem infoIq : (Tryz.prog.info? 3).map (fun i => (i.zero, i.size, i.bytes)) = some (some (.int .i64 0), 1, 8) := by kernel_rfl
def IntRes (T B : Nat) (l : List Int) (w : World) (e : Ending) (w' : World) : Prop := ∃ v, e = .returned v ∧ w'.ownsRow B T 1 v l.length (intV l) ∧ Below w.heap.size w w'
set_option maxHeartbeats 1000000 in
theorem l_toIntS (a : Option Addr) (cap : Nat) (l : List Int) (w : World) (hl : l.length ≤ 1048576) (ha : ArgIn w a l) :
    Calls Tryz.prog 25 #[.slice a l.length cap] w (IntRes 3 w.heap.size l w) := by
  have HA := Lib.hid ha
  clear ha
  obtain ⟨i0, hi, hz0, hz1, hz2⟩ := info_parts infoIq
  have hmk := fun W => run_make_rowN (P := Tryz.prog) 23 3 i0 _ 1 8 Tryz.underlying23 hi hz0 hz1 hz2 .i64 .i64 l.length l.length (Nat.le_refl _) (by omega) (by omega) W
  obtain ⟨cs, hcs⟩ : ∃ cs, madeCells (Value.int .i64 0).cells (l.length * 1) = cs := ⟨_, rfl⟩
  have hcsz : cs.size = l.length * 1 := by rw [← hcs, size_madeCells]
  rw [hcs] at hmk
  clear hcs hi hz0 hz1 hz2
  have HZ := Lib.hid hcsz
  clear hcsz
  go_enter Tryz.func25, Tryz.ntmps25
  go_wp2_with fail
  clear hmk
  go_loopw [4] (fun i wr => ∃ (k : Nat) (R : List Value), k ≤ l.length ∧ i = .int .i64 (k : Int) ∧ R.length = l.length - k ∧ wr.ownsRow w.heap.size 3 1 (.slice (some ⟨w.heap.size, 0, none⟩) l.length l.length) l.length (intV (l.take k) ++ R) ∧ Below w.heap.size w wr) (fun i _ => l.length - (RowKit.intOf i).toNat)
  case atStart => exact ⟨0, cs.toList, Nat.zero_le _, rfl, by have := HZ.out; simpa using this, World.ownsRow_lit _ _ _ (Nat.le_refl _) (by unfold maxLen; omega) HZ.out, (Below.refl _ _).alloc (Nat.le_refl _) _⟩
  case round =>
    obtain ⟨k, R, hk, rfl, hR, hown, hbel⟩ := hrel
    have HO := Lib.hid hown
    have HB := Lib.hid hbel
    have hB := hbel.size
    have hgl : w.heap.size < wr.heap.size := (hown.lt w.heap.size rfl).2
    clear hown
    by_cases hlt : k < l.length
    · obtain ⟨x, rfl, hx, c0⟩ := HA.out k hlt
      obtain ⟨y0, R', hRe⟩ : ∃ y R', R = y :: R' := by
        cases R with
        | nil => simp at hR; omega
        | cons y R' => exact ⟨y, R', rfl⟩
      subst hRe
      have HR' : Hid (R'.length = l.length - (k + 1)) := Lib.hid (by simp at hR; omega)
      have HS := Lib.hid (int_set k l hlt y0 R')
      obtain ⟨t, ht⟩ : ∃ t, l[k] = t := ⟨_, rfl⟩
      rw [ht] at c0 HS
      have d0 : wr.cell? (x.add k) = some (.int .i64 t) := (hbel.cell (by rw [addr_block]; exact hx)).trans c0
      have k0 : (0 : Int) ≤ (k : Int) := by omega
      have k1 : (k : Int) < (l.length : Int) := by omega
      have hlen : (intV (l.take k) ++ y0 :: R').length = l.length * 1 := HO.out.1
      obtain ⟨z0, e0⟩ : ∃ y, wr.cell? ⟨w.heap.size, k, none⟩ = some y := by
        rw [HO.out.cellAt k (by omega)]
        exact ⟨_, List.getElem?_eq_getElem (by omega)⟩
      have fr := HO.out.frozenAt
      have S1 := HO.out.stored k (.int .i64 t)
      have HO2 := Lib.hid (HS.out ▸ S1.1)
      have HB2 := Lib.hid (HB.out.grown S1.2 (by omega) (fun j hj => by injection hj with e; omega))
      clear c0 hbel ht hR hlen S1
      go_wp2
      go_roundw
      case rel => exact ⟨k + 1, R', by omega, by go_num, HR'.out, HO2.out, HB2.out⟩
      case measure => simp [RowKit.intOf]; omega
    · have hkk : k = l.length := by omega
      subst hkk
      have hR0 : R = [] := List.length_eq_zero_iff.1 (by omega)
      subst hR0
      have HF : Hid (wr.ownsRow w.heap.size 3 1 (.slice (some ⟨w.heap.size, 0, none⟩) l.length l.length) l.length (intV l)) := Lib.hid (by have h := HO.out; rw [List.take_length, List.append_nil] at h; exact h)
      clear HO hR
      go_wp2
      go_ret
      exact ⟨_, rfl, HF.out, HB.out⟩
end Go.Proofs.YtakgjlpgcepnkaaGreat

/-! The laws' eqIntS -/
namespace Go.Proofs.YtakgjlpgcepnkaaGreat
open Go.RowKit Go.Lib

set_option maxHeartbeats 400000 in
theorem l_eqInts (a b : Option Addr) (c d : Nat) (l : List Int) (w : World) (ha : ReadI w a l) (hb : ReadI w b l) (hl : l.length ≤ 2097152) :
    Calls Tryz.prog 30 #[.slice a l.length c, .slice b l.length d] w fun e w' => e = .returned (.bool true) ∧ Below w.heap.size w w' := by
  have HA := Lib.hid ha
  have HB := Lib.hid hb
  clear ha hb
  go_enter Tryz.func30, Tryz.ntmps30
  go_wp2_with fail
  go_loopw [5] (fun i wr => ∃ (k q : Nat), k ≤ l.length ∧ i = .int .i64 (k : Int) ∧ wr = w.drewN q) (fun i _ => l.length - (intOf i).toNat)
  case atStart => exact ⟨0, 0, Nat.zero_le _, rfl, rfl⟩
  case round =>
    obtain ⟨k, q, hk, rfl, rfl⟩ := hrel
    by_cases hlt : k < l.length
    · obtain ⟨g, rfl, _, c1⟩ := HA.out k hlt
      obtain ⟨g', rfl, _, c2⟩ := HB.out k hlt
      have k0 : (0 : Int) ≤ (k : Int) := by omega
      have k1 : (k : Int) < (l.length : Int) := by omega
      generalize l[k] = x at c1 c2
      clear HA HB
      go_wp2_with fail
      go_quiet (fail)
      go_wp2
      go_roundw
      case rel => exact ⟨k + 1, _, by omega, by go_num, rfl⟩
      case measure => simp [intOf]; omega
    · go_wp2
      go_ret
      exact ⟨rfl, below_drewN (Below.refl _ _) q⟩
end Go.Proofs.YtakgjlpgcepnkaaGreat
