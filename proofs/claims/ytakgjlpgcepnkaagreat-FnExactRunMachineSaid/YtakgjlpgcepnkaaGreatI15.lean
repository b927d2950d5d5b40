/- The model's machine makes a step; The model's StepMachine; Where the program keeps a machine and what performs an instruction. -/
import Derived.Test.YtakgjlpgcepnkaaGreatI07
import Derived.Test.YtakgjlpgcepnkaaGreatI14
import Derived.Test.YtakgjlpgcepnkaaGreatI10
import Derived.Test.YtakgjlpgcepnkaaGreatI01
import Derived.Test.YtakgjlpgcepnkaaGreatI02
import Derived.Laws.OwnMore
/-! The model's machine makes a step -/
namespace Go.Proofs.YtakgjlpgcepnkaaGreat
open Go.RowKit Go.Lib

theorem three_newS (w : World) (o1 o2 o3 : Obj) : (((w.alloc o1).alloc o2).alloc o3).heap[w.heap.size]? = some o1 ∧ (((w.alloc o1).alloc o2).alloc o3).heap[w.heap.size + 1]? = some o2 ∧ (((w.alloc o1).alloc o2).alloc o3).heap[w.heap.size + 2]? = some o3 ∧ (((w.alloc o1).alloc o2).alloc o3).heap.size = w.heap.size + 3 ∧ Below w.heap.size w (((w.alloc o1).alloc o2).alloc o3) := by
  obtain ⟨t1, t2, t3, t4⟩ := two_new w o1 o2
  have z : ((w.alloc o1).alloc o2).heap.size = w.heap.size + 2 := t3
  refine ⟨(Below.heap_alloc _ _ _ (by omega)).trans t1, (Below.heap_alloc _ _ _ (by omega)).trans t2, ?_, by simp, t4.alloc (by omega) _⟩
  rw [← z]
  exact heap_alloc_new _ o3
theorem fetA_S (x0 x1 : ImA) (b0 b1 a : Int) : fetA x0 x1 (spA x0 x1 b0 b1 a) = fetS x0 x1 b0 b1 a := rfl
theorem cells3t {w : World} {b T : Nat} {x0 x1 x2 : Value} (h : w.heap[b]? = some (.cells #[x0, x1, x2] T (0, 0))) : w.cell? ⟨b, 0, none⟩ = some x0 ∧ w.cell? ⟨b, 1, none⟩ = some x1 ∧ w.cell? ⟨b, 2, none⟩ = some x2 := ⟨(blk h).1 0 _ rfl, (blk h).1 1 _ rfl, (blk h).1 2 _ rfl⟩
/-- How a step ends, with what it was. -/
theorem stepM_at {fet : Int → Option (OpL × Nat)} {E : List Int} {m : McL} {x : OpL} {n : Nat} (h : fet m.pc = some (x, n)) : stepM fet E m = ((perfO E x { m with pc := m.pc + (n : Int) }).bind endO).getD { m with stt := 2 } := by unfold stepM stepO; rw [h]; rfl
set_option maxRecDepth 100000 in
set_option maxHeartbeats 8000000 in
theorem s_step (x0 x1 : ImA) (b0 b1 : Int) (E : List Int) (a0 a1 a2 : Option Addr) (c0 c1 c2 : Nat) (m : McL) (sa oa : Option Addr) (sc oc : Nat) (w : World) (hI : ReadIms w a0 [x0, x1]) (hB : ReadI w a1 [b0, b1]) (hE : ReadI w a2 E) (hs : SpIs x0 x1 b0 b1 E) (z0 : x0.s.size ≤ 1048576) (z1 : x1.s.size ≤ 1048576) (hm : McIs m)
    (h1 : w.ownsRow 0 3 1 (.slice sa m.st.length sc) m.st.length (intV m.st)) (h2 : w.ownsRow 0 3 1 (.slice oa m.out.length oc) m.out.length (intV m.out)) (hO : m.out.length ≤ 4000000) :
    Calls Tryz.prog 23 #[.agg #[.slice a0 2 c0, .slice a1 2 c1, .slice a2 E.length c2], mcA m (.slice sa m.st.length sc) (.slice oa m.out.length oc)] w (CopS (stepM (fetS x0 x1 b0 b1) E m) w) := by
  have hln := hm.len
  have CP := Lib.hid (fun (W : World) (hb : Below w.heap.size w W) => s_copy m (.slice sa m.st.length sc) (.slice oa m.out.length oc) W (owns_below h1 hb) (owns_below h2 hb) (by omega) hO)
  have FE := Lib.hid (fun (W : World) (hb : Below w.heap.size w W) => s_fetch x0 x1 b0 b1 m.pc a0 a1 a2 c0 c1 c2 E.length W (hI.below hb) (hB.below hb) hs.l0 hs.u0 hs.l1 hs.u1 z0 z1 hm.pc.2)
  have PF := Lib.hid (fun (B cb : Nat) (W : World) (v1 v2 : Value) (h : MsAt B cb W v1 v2 (m, false)) (hBw : w.heap.size ≤ B) (hBW : Below w.heap.size w W) (hB1 : B ≤ cb) (n : Nat) hpc (x : OpL) hx => s_perform a0 a1 a2 c0 c1 c2 E B cb W v1 v2 (m, false) h (fun W' hb' => hE.below (hBW.trans (hb'.mono hBw))) hB1 hO n hpc ⟨hm.s0, hm.s1⟩ x hx)
  have FI := Lib.hid (fun (x : OpL) (n : Nat) (h : fetS x0 x1 b0 b1 m.pc = some (x, n)) => fetS_is hs h)
  have BAD := Lib.hid (fun (h : stepO (fetS x0 x1 b0 b1) E m = none) => step_none h)
  have SAT := Lib.hid (fun (x : OpL) (n : Nat) (h : fetS x0 x1 b0 b1 m.pc = some (x, n)) => stepM_at (E := E) h)
  have RPF := Lib.hid (fun (x : OpL) (n : Nat) (hx : ArgOk x) => rel_perfS E x { m with pc := m.pc + (n : Int) } hx)
  have SNO : Hid (fetS x0 x1 b0 b1 m.pc = none → stepM (fetS x0 x1 b0 b1) E m = { m with stt := 2 }) := Lib.hid (fun h => step_none (by unfold stepO; rw [h]; rfl))
  have HLN := Lib.hid hln
  clear hI hB hE hs z0 z1 hm h1 h2 hO BAD
  obtain ⟨FET, hF⟩ : ∃ F, fetS x0 x1 b0 b1 m.pc = F := ⟨_, rfl⟩
  obtain ⟨RES, hR⟩ : ∃ r, stepM (fetS x0 x1 b0 b1) E m = r := ⟨_, rfl⟩
  simp only [fetA_S, hF] at FE
  rw [hF, hR] at SNO
  have HF := Lib.hid hF
  rw [hR] at SAT
  rw [hR]
  clear hF hR
  obtain ⟨pc, sp, fp, st, out, stt, val⟩ := m
  unfold CopS mcA mcRow at CP
  unfold mcA mcRow
  dsimp only at CP FE PF FI SAT RPF SNO HLN HF hln ⊢
  obtain ⟨sn, hsn⟩ : ∃ x, st.length = x := ⟨_, rfl⟩
  obtain ⟨on, hon⟩ : ∃ x, out.length = x := ⟨_, rfl⟩
  rw [hsn] at CP ⊢
  rw [hon] at CP ⊢
  have HSN := Lib.hid hsn
  have HON := Lib.hid hon
  have T3 := Lib.hid (three_newS w (.cells #[.slice a0 2 c0, .slice a1 2 c1, .slice a2 E.length c2] 34) (.cells #[.int .i64 pc, .int .i64 sp, .int .i64 fp, .slice sa sn sc, .slice oa on oc, .int .i64 stt, .int .i64 val] 30) (.cells #[.int .i64 0, .int .i64 0, .int .i64 0, .slice none 0 0, .slice none 0 0, .int .i64 0, .int .i64 0] 30))
  obtain ⟨W0, hW0⟩ : ∃ W, ((w.alloc (.cells #[.slice a0 2 c0, .slice a1 2 c1, .slice a2 E.length c2] 34)).alloc (.cells #[.int .i64 pc, .int .i64 sp, .int .i64 fp, .slice sa sn sc, .slice oa on oc, .int .i64 stt, .int .i64 val] 30)).alloc (.cells #[.int .i64 0, .int .i64 0, .int .i64 0, .slice none 0 0, .slice none 0 0, .int .i64 0, .int .i64 0] 30) = W := ⟨_, rfl⟩
  rw [hW0] at T3
  have HW0 := Lib.hid hW0
  have HZ0 : Hid (w.heap.size + 3 ≤ W0.heap.size) := Lib.hid (by have := T3.out.2.2.2.1; omega)
  have HB0 : Hid (Below w.heap.size w W0) := Lib.hid T3.out.2.2.2.2
  have BX : Hid (∀ W, Below W0.heap.size W0 W → W.heap[w.heap.size]? = some (.cells #[.slice a0 2 c0, .slice a1 2 c1, .slice a2 E.length c2] 34 (0, 0)) ∧ W.heap[w.heap.size + 1]? = some (.cells #[.int .i64 pc, .int .i64 sp, .int .i64 fp, .slice sa sn sc, .slice oa on oc, .int .i64 stt, .int .i64 val] 30 (0, 0)) ∧ W.heap[w.heap.size + 2]? = some (.cells #[.int .i64 0, .int .i64 0, .int .i64 0, .slice none 0 0, .slice none 0 0, .int .i64 0, .int .i64 0] 30 (0, 0)) ∧ Below w.heap.size w W) := Lib.hid (fun W hb => by
    obtain ⟨t0, t1, t2, t3, t4⟩ := T3.out
    exact ⟨(hb.block _ (by omega)).trans t0, (hb.block _ (by omega)).trans t1, (hb.block _ (by omega)).trans t2, t4.trans (hb.mono (by omega))⟩)
  -- how a bad step ends: what is left is the copy, its state, the result
  clear hW0 T3 hsn hon hln
  go_enter Tryz.func23, Tryz.ntmps23
  go_upto_region 1 with fail
  rw [HW0.out]
  have K0 := Lib.hid (BX.out _ (Below.refl _ _))
  obtain ⟨_, hq, _⟩ := K0.out
  obtain ⟨⟨q0, q1, q2, q3, q4, q5, q6⟩, gq, lq⟩ := res7 hq
  clear hq
  go_wp2_with fail
  refine (CP.out _ HB0.out).mono ?_
  rintro e w1 ⟨v1, v2, rfl, O1, O2, AP, b1⟩
  obtain ⟨x1', y1, rfl⟩ := owns_shape O1
  obtain ⟨x2', y2, rfl⟩ := owns_shape O2
  have z1 := b1.size
  have B1 := Lib.hid b1
  have hln : st.length = 1200 := HLN.out
  have MS : Hid (MsAt W0.heap.size w1.heap.size (w1.alloc (.cells #[.int .i64 pc, .int .i64 sp, .int .i64 fp, .slice x1' sn y1, .slice x2' on y2, .int .i64 stt, .int .i64 val, .bool false] 73)) (.slice x1' sn y1) (.slice x2' on y2) (⟨pc, sp, fp, st, out, stt, val⟩, false)) := Lib.hid ⟨heap_alloc_new w1 _, by dsimp only; rw [HSN.out]; exact O1.alloc _, hln, by dsimp only; rw [HON.out]; exact O2.alloc _, AP⟩
  have B2 : Hid (Below W0.heap.size W0 (w1.alloc (.cells #[.int .i64 pc, .int .i64 sp, .int .i64 fp, .slice x1' sn y1, .slice x2' on y2, .int .i64 stt, .int .i64 val, .bool false] 73))) := Lib.hid (b1.alloc z1 _)
  clear b1 O1 O2 AP q0 q1 q2 q3 q4 q5 q6 gq lq K0 B1 hln
  go_upto_region 2 with fail
  obtain ⟨W2, hW2⟩ : ∃ W, (w1.alloc (.cells #[.int .i64 pc, .int .i64 sp, .int .i64 fp, .slice x1' sn y1, .slice x2' on y2, .int .i64 stt, .int .i64 val, .bool false] 73)) = W := ⟨_, rfl⟩
  rw [hW2] at MS B2
  rw [hW2]
  clear hW2
  have HZ1 : Hid (W0.heap.size ≤ w1.heap.size) := Lib.hid z1
  clear z1
  have K2 := Lib.hid (BX.out _ B2.out)
  have FE2 := Lib.hid (FE.out W2 K2.out.2.2.2)
  obtain ⟨hsp, hq, _, _⟩ := K2.out
  obtain ⟨s0, s1, s2⟩ := cells3t hsp
  obtain ⟨⟨q0, q1, q2, q3, q4, q5, q6⟩, gq, lq⟩ := res7 hq
  clear hsp hq K2 FE
  cases FET with
  | none =>
    have HRES := Lib.hid (SNO.out rfl)
    have dv : decV none = .tuple #[.agg #[.int .i64 0, .int .i64 0], .int .i64 0, .bool false] := rfl
    rw [dv] at FE2
    clear dv SNO SAT FI RPF PF MS
    go_wp2_with fail
    refine FE2.out.mono ?_
    rintro e w3 ⟨rfl, b3⟩
    have B3 : Hid (Below W0.heap.size W0 w3) := Lib.hid (B2.out.trans (b3.mono B2.out.size))
    have B4 : Hid (Below W0.heap.size W0 (w3.alloc (.cells #[.int .i64 0, .int .i64 0] 75))) := Lib.hid (B3.out.alloc B3.out.size _)
    clear b3 B2 B3 FE2 s0 s1 s2 q0 q1 q2 q3 q4 q5 q6 gq lq
    obtain ⟨_, hq, hr, hw⟩ := BX.out _ B4.out
    obtain ⟨⟨q0, q1, q2, q3, q4, q5, q6⟩, gq, lq⟩ := res7 hq
    have HW := Lib.hid hw
    have PR := Lib.hid hr
    have ZW : Hid (W0.heap.size ≤ (w3.alloc (.cells #[.int .i64 0, .int .i64 0] 75)).heap.size) := Lib.hid B4.out.size
    have HC := Lib.hid (CP.out _ hw)
    clear hq hr hw
    go_wp2_with fail
    refine HC.out.mono ?_
    rintro e wx ⟨u1, u2, rfl, O1, O2, AP, bx⟩
    obtain ⟨d1, e1, rfl⟩ := owns_shape O1
    obtain ⟨d2, e2, rfl⟩ := owns_shape O2
    have P2 := Lib.hid ((bx.block (w.heap.size + 2) (blk PR.out).2.2).trans PR.out)
    have HBx : Hid (Below w.heap.size w wx) := Lib.hid (HW.out.trans (bx.mono HW.out.size))
    have V1 := Lib.hid (owns_lo O1 ZW.out)
    have V2 := Lib.hid (owns_lo O2 ZW.out)
    have L1 : Hid ((Value.slice d1 sn e1).ownBlock ≠ some wx.heap.size) := Lib.hid (fun e => by have := (O1.lt _ e).2; omega)
    have L2 : Hid ((Value.slice d2 on e2).ownBlock ≠ some wx.heap.size) := Lib.hid (fun e => by have := (O2.lt _ e).2; omega)
    have ZX : Hid (W0.heap.size ≤ wx.heap.size) := Lib.hid (Nat.le_trans ZW.out bx.size)
    have HAP := Lib.hid AP
    clear O1 O2 AP bx q0 q1 q2 q3 q4 q5 q6 gq lq HC PR HW
    go_upto_region 7 with fail
    have Y0 := Lib.hid (heap_alloc_new wx (.cells #[.int .i64 pc, .int .i64 sp, .int .i64 fp, .slice d1 sn e1, .slice d2 on e2, .int .i64 stt, .int .i64 val] 30))
    have Y2 := Lib.hid ((Below.heap_alloc wx (.cells #[.int .i64 pc, .int .i64 sp, .int .i64 fp, .slice d1 sn e1, .slice d2 on e2, .int .i64 stt, .int .i64 val] 30) (w.heap.size + 2) (blk P2.out).2.2).trans P2.out)
    have YB := Lib.hid (HBx.out.alloc (by have := HZ0.out; have := ZX.out; omega) (.cells #[.int .i64 pc, .int .i64 sp, .int .i64 fp, .slice d1 sn e1, .slice d2 on e2, .int .i64 stt, .int .i64 val] 30))
    have YV1 := Lib.hid (V1.out.alloc (.cells #[.int .i64 pc, .int .i64 sp, .int .i64 fp, .slice d1 sn e1, .slice d2 on e2, .int .i64 stt, .int .i64 val] 30))
    have YV2 := Lib.hid (V2.out.alloc (.cells #[.int .i64 pc, .int .i64 sp, .int .i64 fp, .slice d1 sn e1, .slice d2 on e2, .int .i64 stt, .int .i64 val] 30))
    obtain ⟨Wy, hWy⟩ : ∃ W, wx.alloc (.cells #[.int .i64 pc, .int .i64 sp, .int .i64 fp, .slice d1 sn e1, .slice d2 on e2, .int .i64 stt, .int .i64 val] 30) = W := ⟨_, rfl⟩
    rw [hWy] at Y0 Y2 YB YV1 YV2
    rw [hWy]
    clear hWy V1 V2 HBx
    obtain ⟨⟨j0, j1, j2, j3, j4, j5, j6⟩, gj, lj⟩ := res7 Y0.out
    go_upto_region 8 with fail
    have Z0 := Lib.hid (heap_setCell_at (j := 5) Y0.out (.int .i64 2))
    have Z2 := Lib.hid ((set_other (w := Wy) (b := w.heap.size + 2) (c := wx.heap.size) (j := 5) (v := .int .i64 2) (by have := (blk P2.out).2.2; omega)).trans Y2.out)
    have ZB := Lib.hid (YB.out.setCell (p := ⟨wx.heap.size, 5, none⟩) (by show w.heap.size ≤ wx.heap.size; have := HZ0.out; have := ZX.out; omega) (.int .i64 2))
    have ZV1 := Lib.hid (YV1.out.kept (grown_setCell Wy wx.heap.size 5 (.int .i64 2)) (.inr L1.out))
    have ZV2 := Lib.hid (YV2.out.kept (grown_setCell Wy wx.heap.size 5 (.int .i64 2)) (.inr L2.out))
    obtain ⟨Wz, hWz⟩ : ∃ W, Wy.setCell ⟨wx.heap.size, 5, none⟩ (.int .i64 2) = W := ⟨_, rfl⟩
    rw [hWz] at Z0 Z2 ZB ZV1 ZV2
    rw [hWz]
    clear hWz Y0 Y2 YB YV1 YV2 j0 j1 j2 j3 j4 j5 j6 gj lj P2
    obtain ⟨⟨j0, j1, j2, j3, j4, j5, j6⟩, gj, lj⟩ := res7 Z0.out
    obtain ⟨⟨i0, i1, i2, i3, i4, i5, i6⟩, gi, li⟩ := res7 Z2.out
    have X2 := Lib.hid (set7_rowS Z2.out (.int .i64 pc) (.int .i64 sp) (.int .i64 fp) (.slice d1 sn e1) (.slice d2 on e2) (.int .i64 2) (.int .i64 val))
    obtain ⟨⟨t0, t1, t2, t3, t4, t5, t6⟩, gt, lt⟩ := res7 X2.out
    go_wp2
    refine bodyPost_ret (v := .agg #[.int .i64 pc, .int .i64 sp, .int .i64 fp, .slice d1 sn e1, .slice d2 on e2, .int .i64 2, .int .i64 val]) (by simp [results, Tryz.results23, go_sem, t0, t1, t2, t3, t4, t5, t6]) rfl ?_
    rw [HRES.out]
    refine ⟨.slice d1 sn e1, .slice d2 on e2, rfl, ?_, ?_, HAP.out, set7_belowS (b := w.heap.size + 2) ZB.out (by omega) (.int .i64 pc) (.int .i64 sp) (.int .i64 fp) (.slice d1 sn e1) (.slice d2 on e2) (.int .i64 2) (.int .i64 val)⟩
    · dsimp only
      rw [HSN.out]
      exact owns_lo (own7s ZV1.out (fun e => by have := (ZV1.out.lt _ e).1; have := HZ0.out; omega)) (by have := HZ0.out; omega)
    · dsimp only
      rw [HON.out]
      exact owns_lo (own7s ZV2.out (fun e => by have := (ZV2.out.lt _ e).1; have := HZ0.out; omega)) (by have := HZ0.out; omega)
  | some y =>
    obtain ⟨⟨c, a⟩, n⟩ := y
    have dv : decV (some (⟨c, a⟩, n)) = .tuple #[.agg #[.int .i64 c, .int .i64 a], .int .i64 (n : Int), .bool true] := rfl
    rw [dv] at FE2
    obtain ⟨fx, f1, f2, f3⟩ := FI.out ⟨c, a⟩ n HF.out
    have SA := Lib.hid (SAT.out ⟨c, a⟩ n HF.out)
    have RP := Lib.hid (RPF.out ⟨c, a⟩ n fx)
    have HFX := Lib.hid fx
    clear dv SNO SAT FI RPF HF fx
    go_wp2_with fail
    refine FE2.out.mono ?_
    rintro e w3 ⟨rfl, b3⟩
    have B3 : Hid (Below W2.heap.size W2 (w3.alloc (.cells #[.int .i64 c, .int .i64 a] 75))) := Lib.hid (b3.alloc b3.size _)
    have QO := Lib.hid (heap_alloc_new w3 (.cells #[.int .i64 c, .int .i64 a] 75))
    clear b3 FE2 s0 s1 s2 q0 q1 q2 q3 q4 q5 q6 gq lq
    obtain ⟨W4, hW4⟩ : ∃ W, w3.alloc (.cells #[.int .i64 c, .int .i64 a] 75) = W := ⟨_, rfl⟩
    obtain ⟨ob, hob⟩ : ∃ k, w3.heap.size = k := ⟨_, rfl⟩
    rw [hW4] at B3 QO
    rw [hob] at QO
    have B4 : Hid (Below W0.heap.size W0 W4) := Lib.hid (B2.out.trans (B3.out.mono B2.out.size))
    have M4 := Lib.hid (MS.out.below B3.out)
    have HW4 := Lib.hid hW4
    have HOB := Lib.hid hob
    clear hW4 hob B2 B3 MS
    obtain ⟨S', hS⟩ : ∃ S', perfS E ⟨c, a⟩ (⟨pc + (n : Int), sp, fp, st, out, stt, val⟩, false) = S' := ⟨_, rfl⟩
    obtain ⟨PO, hPO⟩ : ∃ o, perfO E ⟨c, a⟩ ⟨pc + (n : Int), sp, fp, st, out, stt, val⟩ = o := ⟨_, rfl⟩
    rw [hS, hPO] at RP
    rw [hPO] at SA
    have PF4 := Lib.hid (PF.out W0.heap.size w1.heap.size W4 _ _ M4.out (by have := HZ0.out; omega) ((BX.out _ B4.out).2.2.2) HZ1.out n ⟨by omega, f2⟩ ⟨c, a⟩ HFX.out)
    rw [hS] at PF4
    clear hS hPO PF HFX f1 f2 f3
    obtain ⟨hsp, _, _, _⟩ := BX.out _ B4.out
    obtain ⟨s0, s1, s2⟩ := cells3t hsp
    have o0 := (blk QO.out).1 0 _ rfl
    have o1 := (blk QO.out).1 1 _ rfl
    have HZ4 : Hid (W0.heap.size ≤ W4.heap.size) := Lib.hid B4.out.size
    have RW : Hid (∀ v ∈ [Value.slice x1' sn y1, Value.slice x2' on y2], ∀ g, v.ownBlock = some g → W0.heap.size ≤ g) := Lib.hid (fun v hv g hg => by
      simp only [List.mem_cons, List.not_mem_nil, or_false] at hv
      rcases hv with rfl | rfl
      · exact (M4.out.st.lt g hg).1
      · exact (M4.out.out.lt g hg).1)
    clear hsp
    cases PO with
    | none =>
      have HRES : Hid (RES = ⟨pc, sp, fp, st, out, 2, val⟩) := Lib.hid SA.out
      obtain ⟨s1', sb⟩ := S'
      have hsb : sb = true := RP.out
      subst hsb
      clear SA RP
      go_upto_region 4 with fail
      rw [HW4.out, HOB.out]
      go_wp2_with fail
      refine PF4.out.mono ?_
      rintro e w5 ⟨rfl, ov', M5, ST⟩
      have B5 : Hid (Below W0.heap.size W0 w5) := Lib.hid (B4.out.trans (ST.out.base HZ4.out HZ1.out RW.out))
      obtain ⟨_, _, _, _, _, _, _, c7, gm⟩ := M5.out.cells
      clear PF4 s0 s1 s2 o0 o1 M5 ST
      obtain ⟨_, hq, hr, hw⟩ := BX.out _ B5.out
      obtain ⟨⟨q0, q1, q2, q3, q4, q5, q6⟩, gq, lq⟩ := res7 hq
      have HW := Lib.hid hw
      have PR := Lib.hid hr
      have ZW : Hid (W0.heap.size ≤ (w5).heap.size) := Lib.hid B5.out.size
      have HC := Lib.hid (CP.out _ hw)
      clear hq hr hw
      go_wp2_with fail
      refine HC.out.mono ?_
      rintro e wx ⟨u1, u2, rfl, O1, O2, AP, bx⟩
      obtain ⟨d1, e1, rfl⟩ := owns_shape O1
      obtain ⟨d2, e2, rfl⟩ := owns_shape O2
      have P2 := Lib.hid ((bx.block (w.heap.size + 2) (blk PR.out).2.2).trans PR.out)
      have HBx : Hid (Below w.heap.size w wx) := Lib.hid (HW.out.trans (bx.mono HW.out.size))
      have V1 := Lib.hid (owns_lo O1 ZW.out)
      have V2 := Lib.hid (owns_lo O2 ZW.out)
      have L1 : Hid ((Value.slice d1 sn e1).ownBlock ≠ some wx.heap.size) := Lib.hid (fun e => by have := (O1.lt _ e).2; omega)
      have L2 : Hid ((Value.slice d2 on e2).ownBlock ≠ some wx.heap.size) := Lib.hid (fun e => by have := (O2.lt _ e).2; omega)
      have ZX : Hid (W0.heap.size ≤ wx.heap.size) := Lib.hid (Nat.le_trans ZW.out bx.size)
      have HAP := Lib.hid AP
      clear O1 O2 AP bx q0 q1 q2 q3 q4 q5 q6 gq lq HC PR HW
      go_upto_region 7 with fail
      have Y0 := Lib.hid (heap_alloc_new wx (.cells #[.int .i64 pc, .int .i64 sp, .int .i64 fp, .slice d1 sn e1, .slice d2 on e2, .int .i64 stt, .int .i64 val] 30))
      have Y2 := Lib.hid ((Below.heap_alloc wx (.cells #[.int .i64 pc, .int .i64 sp, .int .i64 fp, .slice d1 sn e1, .slice d2 on e2, .int .i64 stt, .int .i64 val] 30) (w.heap.size + 2) (blk P2.out).2.2).trans P2.out)
      have YB := Lib.hid (HBx.out.alloc (by have := HZ0.out; have := ZX.out; omega) (.cells #[.int .i64 pc, .int .i64 sp, .int .i64 fp, .slice d1 sn e1, .slice d2 on e2, .int .i64 stt, .int .i64 val] 30))
      have YV1 := Lib.hid (V1.out.alloc (.cells #[.int .i64 pc, .int .i64 sp, .int .i64 fp, .slice d1 sn e1, .slice d2 on e2, .int .i64 stt, .int .i64 val] 30))
      have YV2 := Lib.hid (V2.out.alloc (.cells #[.int .i64 pc, .int .i64 sp, .int .i64 fp, .slice d1 sn e1, .slice d2 on e2, .int .i64 stt, .int .i64 val] 30))
      obtain ⟨Wy, hWy⟩ : ∃ W, wx.alloc (.cells #[.int .i64 pc, .int .i64 sp, .int .i64 fp, .slice d1 sn e1, .slice d2 on e2, .int .i64 stt, .int .i64 val] 30) = W := ⟨_, rfl⟩
      rw [hWy] at Y0 Y2 YB YV1 YV2
      rw [hWy]
      clear hWy V1 V2 HBx
      obtain ⟨⟨j0, j1, j2, j3, j4, j5, j6⟩, gj, lj⟩ := res7 Y0.out
      go_upto_region 8 with fail
      have Z0 := Lib.hid (heap_setCell_at (j := 5) Y0.out (.int .i64 2))
      have Z2 := Lib.hid ((set_other (w := Wy) (b := w.heap.size + 2) (c := wx.heap.size) (j := 5) (v := .int .i64 2) (by have := (blk P2.out).2.2; omega)).trans Y2.out)
      have ZB := Lib.hid (YB.out.setCell (p := ⟨wx.heap.size, 5, none⟩) (by show w.heap.size ≤ wx.heap.size; have := HZ0.out; have := ZX.out; omega) (.int .i64 2))
      have ZV1 := Lib.hid (YV1.out.kept (grown_setCell Wy wx.heap.size 5 (.int .i64 2)) (.inr L1.out))
      have ZV2 := Lib.hid (YV2.out.kept (grown_setCell Wy wx.heap.size 5 (.int .i64 2)) (.inr L2.out))
      obtain ⟨Wz, hWz⟩ : ∃ W, Wy.setCell ⟨wx.heap.size, 5, none⟩ (.int .i64 2) = W := ⟨_, rfl⟩
      rw [hWz] at Z0 Z2 ZB ZV1 ZV2
      rw [hWz]
      clear hWz Y0 Y2 YB YV1 YV2 j0 j1 j2 j3 j4 j5 j6 gj lj P2
      obtain ⟨⟨j0, j1, j2, j3, j4, j5, j6⟩, gj, lj⟩ := res7 Z0.out
      obtain ⟨⟨i0, i1, i2, i3, i4, i5, i6⟩, gi, li⟩ := res7 Z2.out
      have X2 := Lib.hid (set7_rowS Z2.out (.int .i64 pc) (.int .i64 sp) (.int .i64 fp) (.slice d1 sn e1) (.slice d2 on e2) (.int .i64 2) (.int .i64 val))
      obtain ⟨⟨t0, t1, t2, t3, t4, t5, t6⟩, gt, lt⟩ := res7 X2.out
      go_wp2
      refine bodyPost_ret (v := .agg #[.int .i64 pc, .int .i64 sp, .int .i64 fp, .slice d1 sn e1, .slice d2 on e2, .int .i64 2, .int .i64 val]) (by simp [results, Tryz.results23, go_sem, t0, t1, t2, t3, t4, t5, t6]) rfl ?_
      rw [HRES.out]
      refine ⟨.slice d1 sn e1, .slice d2 on e2, rfl, ?_, ?_, HAP.out, set7_belowS (b := w.heap.size + 2) ZB.out (by omega) (.int .i64 pc) (.int .i64 sp) (.int .i64 fp) (.slice d1 sn e1) (.slice d2 on e2) (.int .i64 2) (.int .i64 val)⟩
      · dsimp only
        rw [HSN.out]
        exact owns_lo (own7s ZV1.out (fun e => by have := (ZV1.out.lt _ e).1; have := HZ0.out; omega)) (by have := HZ0.out; omega)
      · dsimp only
        rw [HON.out]
        exact owns_lo (own7s ZV2.out (fun e => by have := (ZV2.out.lt _ e).1; have := HZ0.out; omega)) (by have := HZ0.out; omega)
    | some m' =>
      have hS : S' = (m', false) := RP.out
      subst hS
      clear RP
      go_upto_region 4 with fail
      rw [HW4.out, HOB.out]
      go_wp2_with fail
      refine PF4.out.mono ?_
      rintro e w5 ⟨rfl, ov', M5, ST⟩
      have B5 : Hid (Below W0.heap.size W0 w5) := Lib.hid (B4.out.trans (ST.out.base HZ4.out HZ1.out RW.out))
      have RV : Hid (∀ v ∈ [Value.slice x1' sn y1, ov'], ∀ g, v.ownBlock = some g → W0.heap.size ≤ g) := Lib.hid (fun v hv g hg => by
        simp only [List.mem_cons, List.not_mem_nil, or_false] at hv
        rcases hv with rfl | rfl
        · exact (M5.out.st.lt g hg).1
        · exact (M5.out.out.lt g hg).1)
      clear PF4 s0 s1 s2 o0 o1 ST RW B4 M4 HZ4 QO HW4 HOB
      obtain ⟨x3, y3, rfl⟩ := owns_shape M5.out.out
      have HO3 : Hid (m'.out.length = m'.out.length) := Lib.hid rfl
      obtain ⟨pc', sp', fp', st', out', stt', val'⟩ := m'
      obtain ⟨r0, r1, r2, r3, r4, r5, r6, r7, gr⟩ := M5.out.cells
      dsimp only at r0 r1 r2 r3 r4 r5 r6 r7
      by_cases h0 : pc' = 0
      · subst h0
        have RW2 := Lib.hid (rel_wordS ⟨0, sp', fp', st', out', stt', val'⟩ sp')
        have WD := Lib.hid (s_word M5.out sp')
        obtain ⟨WY, hWY⟩ : ∃ y, wordS (⟨0, sp', fp', st', out', stt', val'⟩, false) sp' = y := ⟨_, rfl⟩
        obtain ⟨WO, hWO⟩ : ∃ o, wordO ⟨0, sp', fp', st', out', stt', val'⟩ sp' = o := ⟨_, rfl⟩
        rw [hWY] at RW2 WD
        rw [hWO] at RW2
        have SA2 : Hid (RES = (WO.bind fun v => some ⟨0, sp', fp', st', out', 1, v⟩).getD ⟨pc, sp, fp, st, out, 2, val⟩) := Lib.hid (by
          have h := SA.out
          unfold endO at h
          dsimp only [Option.bind] at h
          rw [if_pos rfl, hWO] at h
          exact h)
        clear SA hWY hWO
        have hd0 : ((0 : Int) == 0) = true := rfl
        cases WO with
        | none =>
          have HRES : Hid (RES = ⟨pc, sp, fp, st, out, 2, val⟩) := Lib.hid SA2.out
          obtain ⟨wv, ws, wb⟩ := WY
          have hwb : wb = true := RW2.out
          subst hwb
          clear SA2 RW2
          go_wp2_with fail
          refine WD.out.mono ?_
          rintro e w6 ⟨rfl, M6, ST⟩
          have B6 : Hid (Below W0.heap.size W0 w6) := Lib.hid (B5.out.trans (ST.out.base B5.out.size HZ1.out RV.out))
          clear r0 r1 r2 r3 r4 r5 r6 r7 gr WD M5
          obtain ⟨_, _, _, _, _, _, _, c7, gm⟩ := M6.out.cells
          clear ST M6
          obtain ⟨_, hq, hr, hw⟩ := BX.out _ B6.out
          obtain ⟨⟨q0, q1, q2, q3, q4, q5, q6⟩, gq, lq⟩ := res7 hq
          have HW := Lib.hid hw
          have PR := Lib.hid hr
          have ZW : Hid (W0.heap.size ≤ (w6).heap.size) := Lib.hid B6.out.size
          have HC := Lib.hid (CP.out _ hw)
          clear hq hr hw
          go_wp2_with fail
          refine HC.out.mono ?_
          rintro e wx ⟨u1, u2, rfl, O1, O2, AP, bx⟩
          obtain ⟨d1, e1, rfl⟩ := owns_shape O1
          obtain ⟨d2, e2, rfl⟩ := owns_shape O2
          have P2 := Lib.hid ((bx.block (w.heap.size + 2) (blk PR.out).2.2).trans PR.out)
          have HBx : Hid (Below w.heap.size w wx) := Lib.hid (HW.out.trans (bx.mono HW.out.size))
          have V1 := Lib.hid (owns_lo O1 ZW.out)
          have V2 := Lib.hid (owns_lo O2 ZW.out)
          have L1 : Hid ((Value.slice d1 sn e1).ownBlock ≠ some wx.heap.size) := Lib.hid (fun e => by have := (O1.lt _ e).2; omega)
          have L2 : Hid ((Value.slice d2 on e2).ownBlock ≠ some wx.heap.size) := Lib.hid (fun e => by have := (O2.lt _ e).2; omega)
          have ZX : Hid (W0.heap.size ≤ wx.heap.size) := Lib.hid (Nat.le_trans ZW.out bx.size)
          have HAP := Lib.hid AP
          clear O1 O2 AP bx q0 q1 q2 q3 q4 q5 q6 gq lq HC PR HW
          go_upto_region 13 with fail
          have Y0 := Lib.hid (heap_alloc_new wx (.cells #[.int .i64 pc, .int .i64 sp, .int .i64 fp, .slice d1 sn e1, .slice d2 on e2, .int .i64 stt, .int .i64 val] 30))
          have Y2 := Lib.hid ((Below.heap_alloc wx (.cells #[.int .i64 pc, .int .i64 sp, .int .i64 fp, .slice d1 sn e1, .slice d2 on e2, .int .i64 stt, .int .i64 val] 30) (w.heap.size + 2) (blk P2.out).2.2).trans P2.out)
          have YB := Lib.hid (HBx.out.alloc (by have := HZ0.out; have := ZX.out; omega) (.cells #[.int .i64 pc, .int .i64 sp, .int .i64 fp, .slice d1 sn e1, .slice d2 on e2, .int .i64 stt, .int .i64 val] 30))
          have YV1 := Lib.hid (V1.out.alloc (.cells #[.int .i64 pc, .int .i64 sp, .int .i64 fp, .slice d1 sn e1, .slice d2 on e2, .int .i64 stt, .int .i64 val] 30))
          have YV2 := Lib.hid (V2.out.alloc (.cells #[.int .i64 pc, .int .i64 sp, .int .i64 fp, .slice d1 sn e1, .slice d2 on e2, .int .i64 stt, .int .i64 val] 30))
          obtain ⟨Wy, hWy⟩ : ∃ W, wx.alloc (.cells #[.int .i64 pc, .int .i64 sp, .int .i64 fp, .slice d1 sn e1, .slice d2 on e2, .int .i64 stt, .int .i64 val] 30) = W := ⟨_, rfl⟩
          rw [hWy] at Y0 Y2 YB YV1 YV2
          rw [hWy]
          clear hWy V1 V2 HBx
          obtain ⟨⟨j0, j1, j2, j3, j4, j5, j6⟩, gj, lj⟩ := res7 Y0.out
          go_upto_region 14 with fail
          have Z0 := Lib.hid (heap_setCell_at (j := 5) Y0.out (.int .i64 2))
          have Z2 := Lib.hid ((set_other (w := Wy) (b := w.heap.size + 2) (c := wx.heap.size) (j := 5) (v := .int .i64 2) (by have := (blk P2.out).2.2; omega)).trans Y2.out)
          have ZB := Lib.hid (YB.out.setCell (p := ⟨wx.heap.size, 5, none⟩) (by show w.heap.size ≤ wx.heap.size; have := HZ0.out; have := ZX.out; omega) (.int .i64 2))
          have ZV1 := Lib.hid (YV1.out.kept (grown_setCell Wy wx.heap.size 5 (.int .i64 2)) (.inr L1.out))
          have ZV2 := Lib.hid (YV2.out.kept (grown_setCell Wy wx.heap.size 5 (.int .i64 2)) (.inr L2.out))
          obtain ⟨Wz, hWz⟩ : ∃ W, Wy.setCell ⟨wx.heap.size, 5, none⟩ (.int .i64 2) = W := ⟨_, rfl⟩
          rw [hWz] at Z0 Z2 ZB ZV1 ZV2
          rw [hWz]
          clear hWz Y0 Y2 YB YV1 YV2 j0 j1 j2 j3 j4 j5 j6 gj lj P2
          obtain ⟨⟨j0, j1, j2, j3, j4, j5, j6⟩, gj, lj⟩ := res7 Z0.out
          obtain ⟨⟨i0, i1, i2, i3, i4, i5, i6⟩, gi, li⟩ := res7 Z2.out
          have X2 := Lib.hid (set7_rowS Z2.out (.int .i64 pc) (.int .i64 sp) (.int .i64 fp) (.slice d1 sn e1) (.slice d2 on e2) (.int .i64 2) (.int .i64 val))
          obtain ⟨⟨t0, t1, t2, t3, t4, t5, t6⟩, gt, lt⟩ := res7 X2.out
          go_wp2
          refine bodyPost_ret (v := .agg #[.int .i64 pc, .int .i64 sp, .int .i64 fp, .slice d1 sn e1, .slice d2 on e2, .int .i64 2, .int .i64 val]) (by simp [results, Tryz.results23, go_sem, t0, t1, t2, t3, t4, t5, t6]) rfl ?_
          rw [HRES.out]
          refine ⟨.slice d1 sn e1, .slice d2 on e2, rfl, ?_, ?_, HAP.out, set7_belowS (b := w.heap.size + 2) ZB.out (by omega) (.int .i64 pc) (.int .i64 sp) (.int .i64 fp) (.slice d1 sn e1) (.slice d2 on e2) (.int .i64 2) (.int .i64 val)⟩
          · dsimp only
            rw [HSN.out]
            exact owns_lo (own7s ZV1.out (fun e => by have := (ZV1.out.lt _ e).1; have := HZ0.out; omega)) (by have := HZ0.out; omega)
          · dsimp only
            rw [HON.out]
            exact owns_lo (own7s ZV2.out (fun e => by have := (ZV2.out.lt _ e).1; have := HZ0.out; omega)) (by have := HZ0.out; omega)
        | some v =>
          have HRES : Hid (RES = ⟨0, sp', fp', st', out', 1, v⟩) := Lib.hid SA2.out
          have hW : WY = (v, (⟨0, sp', fp', st', out', stt', val'⟩, false)) := RW2.out
          subst hW
          clear SA2 RW2
          go_wp2_with fail
          refine WD.out.mono ?_
          rintro e w6 ⟨rfl, M6, ST⟩
          have B6 : Hid (Below W0.heap.size W0 w6) := Lib.hid (B5.out.trans (ST.out.base B5.out.size HZ1.out RV.out))
          clear r0 r1 r2 r3 r4 r5 r6 r7 gr WD M5 ST hd0
          obtain ⟨r0, r1, r2, r3, r4, r5, r6, r7, gr⟩ := M6.out.cells
          dsimp only at r0 r1 r2 r3 r4 r5 r6 r7
          go_upto_region 16 with fail
          have M7 := Lib.hid (M6.out.setSt 1).1
          have B7 := Lib.hid (B6.out.setCell (p := ⟨w1.heap.size, 5, none⟩) HZ1.out (.int .i64 1))
          obtain ⟨W7, hW7⟩ : ∃ W, w6.setCell ⟨w1.heap.size, 5, none⟩ (.int .i64 1) = W := ⟨_, rfl⟩
          rw [hW7] at M7 B7
          rw [hW7]
          clear hW7 r0 r1 r2 r3 r4 r5 r6 r7 gr M6 B6
          obtain ⟨r0, r1, r2, r3, r4, r5, r6, r7, gr⟩ := M7.out.cells
          dsimp only at r0 r1 r2 r3 r4 r5 r6 r7
          go_upto_region 17 with fail
          have M8 := Lib.hid (M7.out.setVl v).1
          have B8 := Lib.hid (B7.out.setCell (p := ⟨w1.heap.size, 6, none⟩) HZ1.out (.int .i64 v))
          obtain ⟨W8, hW8⟩ : ∃ W, W7.setCell ⟨w1.heap.size, 6, none⟩ (.int .i64 v) = W := ⟨_, rfl⟩
          rw [hW8] at M8 B8
          rw [hW8]
          clear hW8 r0 r1 r2 r3 r4 r5 r6 r7 gr M7 B7
          obtain ⟨r0, r1, r2, r3, r4, r5, r6, r7, gr⟩ := M8.out.cells
          dsimp only at r0 r1 r2 r3 r4 r5 r6 r7
          obtain ⟨_, _, hr, hw⟩ := BX.out _ B8.out
          obtain ⟨⟨i0, i1, i2, i3, i4, i5, i6⟩, gi, li⟩ := res7 hr
          have X2 := Lib.hid (set7_rowS hr (.int .i64 0) (.int .i64 sp') (.int .i64 fp') (.slice x1' sn y1) (.slice x3 out'.length y3) (.int .i64 1) (.int .i64 v))
          have XB := Lib.hid (set7_belowS (b := w.heap.size + 2) hw (by omega) (.int .i64 0) (.int .i64 sp') (.int .i64 fp') (.slice x1' sn y1) (.slice x3 out'.length y3) (.int .i64 1) (.int .i64 v))
          obtain ⟨⟨t0, t1, t2, t3, t4, t5, t6⟩, gt, lt⟩ := res7 X2.out
          clear hr hw
          go_wp2
          refine bodyPost_ret (v := .agg #[.int .i64 0, .int .i64 sp', .int .i64 fp', .slice x1' sn y1, .slice x3 out'.length y3, .int .i64 1, .int .i64 v]) (by simp [results, Tryz.results23, go_sem, t0, t1, t2, t3, t4, t5, t6]) rfl ?_
          rw [HRES.out]
          refine ⟨.slice x1' sn y1, .slice x3 out'.length y3, rfl, ?_, ?_, M8.out.ap, XB.out⟩
          · exact owns_lo (own7s M8.out.st (fun e => by have := (M8.out.st.lt _ e).1; have := HZ0.out; omega)) (by have := HZ0.out; omega)
          · exact owns_lo (own7s M8.out.out (fun e => by have := (M8.out.out.lt _ e).1; have := HZ0.out; omega)) (by have := HZ0.out; omega)
      · have HRES : Hid (RES = ⟨pc', sp', fp', st', out', stt', val'⟩) := Lib.hid (by
          have h := SA.out
          unfold endO at h
          dsimp only [Option.bind] at h
          rw [if_neg h0] at h
          exact h)
        clear SA
        have hd0 : (pc' == 0) = false := by simpa using h0
        clear h0
        obtain ⟨_, _, hr, hw⟩ := BX.out _ B5.out
        obtain ⟨⟨i0, i1, i2, i3, i4, i5, i6⟩, gi, li⟩ := res7 hr
        have X2 := Lib.hid (set7_rowS hr (.int .i64 pc') (.int .i64 sp') (.int .i64 fp') (.slice x1' sn y1) (.slice x3 out'.length y3) (.int .i64 stt') (.int .i64 val'))
        have XB := Lib.hid (set7_belowS (b := w.heap.size + 2) hw (by omega) (.int .i64 pc') (.int .i64 sp') (.int .i64 fp') (.slice x1' sn y1) (.slice x3 out'.length y3) (.int .i64 stt') (.int .i64 val'))
        obtain ⟨⟨t0, t1, t2, t3, t4, t5, t6⟩, gt, lt⟩ := res7 X2.out
        clear hr hw
        go_wp2
        refine bodyPost_ret (v := .agg #[.int .i64 pc', .int .i64 sp', .int .i64 fp', .slice x1' sn y1, .slice x3 out'.length y3, .int .i64 stt', .int .i64 val']) (by simp [results, Tryz.results23, go_sem, t0, t1, t2, t3, t4, t5, t6]) rfl ?_
        rw [HRES.out]
        refine ⟨.slice x1' sn y1, .slice x3 out'.length y3, rfl, ?_, ?_, M5.out.ap, XB.out⟩
        · exact owns_lo (own7s M5.out.st (fun e => by have := (M5.out.st.lt _ e).1; have := HZ0.out; omega)) (by have := HZ0.out; omega)
        · exact owns_lo (own7s M5.out.out (fun e => by have := (M5.out.out.lt _ e).1; have := HZ0.out; omega)) (by have := HZ0.out; omega)
end Go.Proofs.YtakgjlpgcepnkaaGreat

/-! The model's StepMachine -/
namespace Go.Proofs.YtakgjlpgcepnkaaGreat
open Go.RowKit Go.Lib

end Go.Proofs.YtakgjlpgcepnkaaGreat

/-! Where the program keeps a machine and what performs an instruction -/
namespace Go.Proofs.YtakgjlpgcepnkaaGreat
open Go.RowKit Go.Lib

/-- A block, as a value that lies in it. -/
def CV (cb : Nat) : Value := .slice (some ⟨cb, 0, none⟩) 0 0
/-- A machine: its block, its stack, its output. -/
structure McAt (B mb : Nat) (w : World) (sv ov : Value) (m : McL) : Prop where
  mr : w.heap[mb]? = some (.cells (mcRow m sv ov) 30 (0, 0))
  st : w.ownsRow B 3 1 sv m.st.length (intV m.st)
  ln : m.st.length = 1200
  out : w.ownsRow B 3 1 ov m.out.length (intV m.out)
  ap : Ap sv ov
def cRow (mb : Nat) (ev : Value) (f : Bool) : Array Value := #[.pointer (some ⟨mb, 0, none⟩), ev, .bool f]
/-- With what performs an instruction of it. -/
structure MiAt (B cb mb : Nat) (w : World) (ev sv ov : Value) (s : McS) : Prop where
  cr : w.heap[cb]? = some (.cells (cRow mb ev s.2) 92 (0, 0))
  mc : McAt B mb w sv ov s.1
def MM (cb : Nat) (sv ov : Value) : List Value := [CV cb, sv, ov]
def MiR (B cb mb : Nat) (ev sv ov v : Value) (s' : McS) (w : World) (e : Ending) (w' : World) : Prop := e = .returned v ∧ Hid (MiAt B cb mb w' ev sv ov s') ∧ Hid (Step mb (MM cb sv ov) (MM cb sv ov) w w')
theorem own_forms {B T s n : Nat} {w : World} {v : Value} {xs : List Value} (h : w.ownsRow B T s v n xs) (hn : 0 < n) : ∃ g c, v = .slice (some ⟨g, 0, none⟩) n c := by
  rcases h.2 with ⟨_, h0⟩ | ⟨g, cap, cur, hv, _⟩
  · omega
  · exact ⟨g, cap, hv⟩
section
variable {B cb mb : Nat} {w w' : World} {ev sv ov : Value} {s : McS} {m : McL}
theorem McAt.same (h : McAt B mb w sv ov m) (hm : w'.heap[mb]? = w.heap[mb]?) (hs : ∀ g, sv.ownBlock = some g → w'.heap[g]? = w.heap[g]?) (ho : ∀ g, ov.ownBlock = some g → w'.heap[g]? = w.heap[g]?) : McAt B mb w' sv ov m :=
  ⟨hm.trans h.mr, owns_blks h.st hs, h.ln, owns_blks h.out ho, h.ap⟩
theorem McAt.lt (h : McAt B mb w sv ov m) : mb < w.heap.size := (blk h.mr).2.2
theorem McAt.below (h : McAt B mb w sv ov m) (hb : Below w.heap.size w w') : McAt B mb w' sv ov m := h.same (hb.block mb h.lt) (fun g hg => hb.block g (h.st.lt g hg).2) (fun g hg => hb.block g (h.out.lt g hg).2)
theorem McAt.off (h : McAt B mb w sv ov m) : sv.ownBlock ≠ some mb ∧ ov.ownBlock ≠ some mb := ⟨ne_types h.st h.mr (by decide), ne_types h.out h.mr (by decide)⟩
theorem MiAt.off (h : MiAt B cb mb w ev sv ov s) : sv.ownBlock ≠ some cb ∧ ov.ownBlock ≠ some cb ∧ cb ≠ mb := ⟨ne_types h.mc.st h.cr (by decide), ne_types h.mc.out h.cr (by decide), fun e => by
  have h1 := h.cr
  rw [e, h.mc.mr] at h1
  injection h1 with h1
  injection h1 with _ h1 _
  exact absurd h1 (by decide)⟩
theorem MiAt.below (h : MiAt B cb mb w ev sv ov s) (hb : Below w.heap.size w w') : MiAt B cb mb w' ev sv ov s := ⟨(hb.block cb (blk h.cr).2.2).trans h.cr, h.mc.below hb⟩
theorem MM.rows {cb : Nat} {sv ov : Value} {w : World} : ∀ v ∈ MM cb sv ov, ∀ g, v.ownBlock = some g → (∃ u ∈ MM cb sv ov, u.ownBlock = some g) ∨ w.heap.size ≤ g := fun v hv g hg => .inl ⟨v, hv, hg⟩
/-- One of the machine's cells was written. -/
theorem MiAt.setM (h : MiAt B cb mb w ev sv ov s) (j : Nat) (u : Value) {m' : McL} (he : (mcRow s.1 sv ov).setIfInBounds j u = mcRow m' sv ov) (hs : m'.st = s.1.st) (ho : m'.out = s.1.out) :
    MiAt B cb mb (w.setCell ⟨mb, j, none⟩ u) ev sv ov (m', s.2) ∧ Step mb (MM cb sv ov) (MM cb sv ov) w (w.setCell ⟨mb, j, none⟩ u) := by
  obtain ⟨o1, o2⟩ := h.mc.off
  obtain ⟨_, _, o3⟩ := h.off
  refine ⟨⟨(set_other o3).trans h.cr, by dsimp only; rw [← he]; exact heap_setCell_at h.mc.mr _, ?_, by dsimp only; rw [hs]; exact h.mc.ln, ?_, h.mc.ap⟩, Step.of_set MM.rows⟩
  · dsimp only; rw [hs]; exact owns_blks h.mc.st (fun g hg => set_other (fun e => o1 (by rw [hg, e])))
  · dsimp only; rw [ho]; exact owns_blks h.mc.out (fun g hg => set_other (fun e => o2 (by rw [hg, e])))
theorem MiAt.setPc (h : MiAt B cb mb w ev sv ov s) (v : Int) : MiAt B cb mb (w.setCell ⟨mb, 0, none⟩ (.int .i64 v)) ev sv ov ({ s.1 with pc := v }, s.2) ∧ Step mb (MM cb sv ov) (MM cb sv ov) w (w.setCell ⟨mb, 0, none⟩ (.int .i64 v)) := h.setM 0 _ rfl rfl rfl
theorem MiAt.setSp (h : MiAt B cb mb w ev sv ov s) (v : Int) : MiAt B cb mb (w.setCell ⟨mb, 1, none⟩ (.int .i64 v)) ev sv ov ({ s.1 with sp := v }, s.2) ∧ Step mb (MM cb sv ov) (MM cb sv ov) w (w.setCell ⟨mb, 1, none⟩ (.int .i64 v)) := h.setM 1 _ rfl rfl rfl
theorem MiAt.setFp (h : MiAt B cb mb w ev sv ov s) (v : Int) : MiAt B cb mb (w.setCell ⟨mb, 2, none⟩ (.int .i64 v)) ev sv ov ({ s.1 with fp := v }, s.2) ∧ Step mb (MM cb sv ov) (MM cb sv ov) w (w.setCell ⟨mb, 2, none⟩ (.int .i64 v)) := h.setM 2 _ rfl rfl rfl
theorem MiAt.setSt (h : MiAt B cb mb w ev sv ov s) (v : Int) : MiAt B cb mb (w.setCell ⟨mb, 5, none⟩ (.int .i64 v)) ev sv ov ({ s.1 with stt := v }, s.2) ∧ Step mb (MM cb sv ov) (MM cb sv ov) w (w.setCell ⟨mb, 5, none⟩ (.int .i64 v)) := h.setM 5 _ rfl rfl rfl
theorem MiAt.setVl (h : MiAt B cb mb w ev sv ov s) (v : Int) : MiAt B cb mb (w.setCell ⟨mb, 6, none⟩ (.int .i64 v)) ev sv ov ({ s.1 with val := v }, s.2) ∧ Step mb (MM cb sv ov) (MM cb sv ov) w (w.setCell ⟨mb, 6, none⟩ (.int .i64 v)) := h.setM 6 _ rfl rfl rfl
/-- It was told whether something fails. -/
theorem MiAt.setF (h : MiAt B cb mb w ev sv ov s) (b : Bool) : MiAt B cb mb (w.setCell ⟨cb, 2, none⟩ (.bool b)) ev sv ov (s.1, b) ∧ Step mb (MM cb sv ov) (MM cb sv ov) w (w.setCell ⟨cb, 2, none⟩ (.bool b)) := by
  obtain ⟨o1, o2, o3⟩ := h.off
  refine ⟨⟨heap_setCell_at h.cr _, h.mc.same (set_other o3.symm) (fun g hg => set_other (fun e => o1 (by rw [hg, e]))) (fun g hg => set_other (fun e => o2 (by rw [hg, e])))⟩, rfl, rfl, rfl, by simp [World.setCell], fun k _ _ hm => set_other (fun e => hm (CV cb) (by simp [MM]) (by rw [e]; rfl)), MM.rows⟩
theorem intV_set (l : List Int) (k : Nat) (v : Int) : intV (l.set k v) = (intV l).set k (.int .i64 v) := by unfold intV; rw [List.map_set]
/-- A word was stored. -/
theorem MiAt.setS {g n c : Nat} (h : MiAt B cb mb w ev (.slice (some ⟨g, 0, none⟩) n c) ov s) (a : Nat) (v : Int) :
    MiAt B cb mb (w.setCell ⟨g, a, none⟩ (.int .i64 v)) ev (.slice (some ⟨g, 0, none⟩) n c) ov ({ s.1 with st := s.1.st.set a v }, s.2) ∧ Step mb (MM cb (.slice (some ⟨g, 0, none⟩) n c) ov) (MM cb (.slice (some ⟨g, 0, none⟩) n c) ov) w (w.setCell ⟨g, a, none⟩ (.int .i64 v)) := by
  have hn : n = s.1.st.length := by
    rcases h.mc.st.2 with ⟨e, _⟩ | ⟨_, _, _, e, _⟩
    · cases e
    · injection e
  subst hn
  obtain ⟨o1, _⟩ := h.mc.off
  obtain ⟨p1, p2, p3⟩ := h.off
  have hg1 : mb ≠ g := fun e => o1 (by rw [e]; rfl)
  have hg2 : cb ≠ g := fun e => p1 (by rw [e]; rfl)
  refine ⟨⟨(set_other hg2).trans h.cr, (set_other hg1).trans h.mc.mr, ?_, by simpa using h.mc.ln, owns_blks h.mc.out (fun k hk => set_other (fun e => h.mc.ap g rfl (by rw [hk, e]))), h.mc.ap⟩, rfl, rfl, rfl, by simp [World.setCell], fun k _ _ hm => set_other (fun e => hm (.slice (some ⟨g, 0, none⟩) _ c) (List.mem_cons_of_mem _ (List.mem_cons_self ..)) (by rw [e]; rfl)), MM.rows⟩
  have hs := (h.mc.st.stored a (.int .i64 v)).1
  have e1 : ((s.1.st.set a v).length) = s.1.st.length := by simp
  dsimp only
  rw [e1, intV_set]
  exact hs
theorem MiAt.cells (h : MiAt B cb mb w ev sv ov s) : w.cell? ⟨cb, 0, none⟩ = some (.pointer (some ⟨mb, 0, none⟩)) ∧ w.cell? ⟨cb, 1, none⟩ = some ev ∧ w.cell? ⟨cb, 2, none⟩ = some (.bool s.2) ∧ w.frozen? ⟨cb, 2, none⟩ = false :=
  ⟨(blk h.cr).1 0 _ rfl, (blk h.cr).1 1 _ rfl, (blk h.cr).1 2 _ rfl, (blk h.cr).2.1 2⟩
theorem McAt.cells (h : McAt B mb w sv ov m) : w.cell? ⟨mb, 0, none⟩ = some (.int .i64 m.pc) ∧ w.cell? ⟨mb, 1, none⟩ = some (.int .i64 m.sp) ∧ w.cell? ⟨mb, 2, none⟩ = some (.int .i64 m.fp) ∧ w.cell? ⟨mb, 3, none⟩ = some sv ∧ w.cell? ⟨mb, 4, none⟩ = some ov ∧ w.cell? ⟨mb, 5, none⟩ = some (.int .i64 m.stt) ∧ w.cell? ⟨mb, 6, none⟩ = some (.int .i64 m.val) ∧ ∀ j, w.frozen? ⟨mb, j, none⟩ = false :=
  ⟨(blk h.mr).1 0 _ rfl, (blk h.mr).1 1 _ rfl, (blk h.mr).1 2 _ rfl, (blk h.mr).1 3 _ rfl, (blk h.mr).1 4 _ rfl, (blk h.mr).1 5 _ rfl, (blk h.mr).1 6 _ rfl, (blk h.mr).2.1⟩
end
end Go.Proofs.YtakgjlpgcepnkaaGreat
