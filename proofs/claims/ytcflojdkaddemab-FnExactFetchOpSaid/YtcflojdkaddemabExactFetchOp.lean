/- FetchOp answers as its model for every space and every address. No condition. -/
import Derived.Test.YtcflojdkaddemabSpcN
import Derived.Test.YtcflojdkaddemabSpcLaw
import Derived.Test.YtcflojdkaddemabSpcArg
import Derived.Test.YtcflojdkaddemabOpEq
import Derived.Deep.RegionHeld3
import Derived.Lib.SmallJoins
import Derived.ProofKit
import Derived.OpenShut
import Derived.ShutString
import Derived.ChangeOld
import Derived.Below
import Derived.Carry
namespace Go.Proofs.Ytcflojdkaddemab.fnExactFetchOp
open Go.ChangeShapes Go.WideShapes Go.ChangeAt Go.RowKit Go.Lib
open Go.ChangeMaps (open_string shut_string)

theorem keep3s {w w' : World} {b : Nat} {x0 x1 x2 : Value} (hb : Below w.heap.size w w') (hlt : b < w.heap.size) (h : w.cell? ⟨b, 0, none⟩ = some x0 ∧ w.cell? ⟨b, 1, none⟩ = some x1 ∧ w.cell? ⟨b, 2, none⟩ = some x2) : w'.cell? ⟨b, 0, none⟩ = some x0 ∧ w'.cell? ⟨b, 1, none⟩ = some x1 ∧ w'.cell? ⟨b, 2, none⟩ = some x2 :=
  ⟨(hb.cell (p := ⟨b, 0, none⟩) hlt).trans h.1, (hb.cell (p := ⟨b, 1, none⟩) hlt).trans h.2.1, (hb.cell (p := ⟨b, 2, none⟩) hlt).trans h.2.2⟩
set_option maxRecDepth 100000 in
set_option maxHeartbeats 4000000 in
theorem walk (a0 a1 a2 : Option Addr) (c0 c1 c2 : Nat) (I : List ImA) (B E : List Int) (o : Int) (w : World) (hI : I.length ≤ maxLen) (hB : B.length ≤ maxLen) (hE : E.length ≤ maxLen) (hEb : ∀ e ∈ E, e ≤ 9223372036854775807) (ha : ArgSp w a0 I a1 B a2 E) (_ho : (Lit.int .i64 o).wf = true) :
    Calls Try.prog 3 #[.agg #[.slice a0 I.length c0, .slice a1 B.length c1, .slice a2 E.length c2], .int .i64 o] w fun e w' => e = .returned (.bool true) ∧ Below w.heap.size w w' := by
  have T0 := Lib.hid (heap_alloc_new w (.cells #[.slice a0 I.length c0, .slice a1 B.length c1, .slice a2 E.length c2] 25))
  have TB := Lib.hid ((Below.refl w.heap.size w).alloc (Nat.le_refl _) (.cells #[.slice a0 I.length c0, .slice a1 B.length c1, .slice a2 E.length c2] 25))
  have HA := Lib.hid ha
  have SZ := Lib.hid (l_szSpace a0 a1 a2 c0 c1 c2 I B E 1048576 _ hI hB hE (ha.below TB.out) (by omega) (by omega))
  have HEB := Lib.hid hEb
  have HOB := Lib.hid (bounds_i64 _ho).2
  clear ha hEb _ho
  go_enter Try.func3, Try.ntmps3
  go_wp2_with fail
  refine SZ.out.mono ?_
  rintro e w1 ⟨r, rfl, b1, hr⟩
  have tz : (w.alloc (.cells #[.slice a0 I.length c0, .slice a1 B.length c1, .slice a2 E.length c2] 25)).heap.size = w.heap.size + 1 := by simp
  have z1 := b1.size
  rw [tz] at z1 b1
  have P0 := Lib.hid ((b1.block _ (by omega)).trans T0.out)
  have HB1 : Hid (Below w.heap.size w w1) := Lib.hid (TB.out.trans (b1.mono (by omega)))
  clear tz b1 T0 TB SZ
  rcases hr with rfl | ⟨hr0, ⟨hlI, hsI⟩, hlB, hlE⟩
  · go_wp2
    go_ret
    exact ⟨rfl, HB1.out⟩
  have HSI := Lib.hid hsI
  have q1 : I.length ≤ 1048576 := by omega
  have q2 : B.length ≤ 1048576 := by omega
  have q3 : E.length ≤ 1048576 := by omega
  have hd : decide (r < 0) = false := by simp; omega
  clear hsI hlI hlB hlE
  have TA := Lib.hid (fun (W : World) (hb : Below w.heap.size w W) => l_toSpace a0 a1 a2 c0 c1 c2 I B E W q1 q2 q3 (HA.out.below hb) HSI.out)
  obtain ⟨ps, hps⟩ : ∃ x, psI I = x := ⟨_, rfl⟩
  have SML : Hid (∀ X : List ImA, psI X = ps → SmlI X B E ∧ X.length ≤ 1048576) := Lib.hid (fun X hX => by
    have hl : X.length = I.length := by have h := congrArg List.length (hX.trans hps.symm); rwa [psI_len, psI_len] at h
    exact ⟨⟨by omega, q2, q3, psI_small (hX.trans hps.symm) HSI.out, HEB.out⟩, by omega⟩)
  rw [hps] at TA
  clear hps
  obtain ⟨res, hres⟩ : ∃ x, fetZ (canI ps) B E o = x := ⟨_, rfl⟩
  have HRES : Hid (∀ X : List ImA, psI X = ps → fetZ X B E o = res) := Lib.hid (fun X hX => by rw [fetZ_can, hX]; exact hres)
  clear hres
  obtain ⟨e0, e1, e2⟩ := cells3s P0.out
  go_wp2_with fail
  refine (TA.out _ HB1.out).mono ?_
  rintro e wa ⟨v0, X, v1, v2, rfl, O0, M0, p0, O1, O2, ba⟩
  obtain ⟨x0, y0, rfl⟩ := owns3_shape O0
  obtain ⟨x1, y1, rfl⟩ := owns_shape O1
  obtain ⟨x2, y2, rfl⟩ := owns_shape O2
  have RA := Lib.hid (readSp_of O0 M0 O1 O2)
  have za := ba.size
  have Pa := Lib.hid ((ba.block _ (by omega)).trans P0.out)
  have HBa : Hid (Below w.heap.size w wa) := Lib.hid (HB1.out.trans (ba.mono (by omega)))
  have SS := Lib.hid (s_fetchOp X B E o x0 x1 x2 y0 y1 y2 _ RA.out.1 RA.out.2.1 RA.out.2.2 (SML.out X p0).1 HOB.out)
  rw [HRES.out X p0] at SS
  clear O0 M0 O1 O2 p0 ba P0 e0 e1 e2 hd
  obtain ⟨rc, ra, rn, rb, hrv⟩ := decV_shape res
  rw [hrv] at SS
  have HRV := Lib.hid hrv
  clear hrv
  go_wp2_with fail
  refine SS.out.mono ?_
  rintro e w2 ⟨rfl, b2⟩
  have z2 := b2.size
  have P2 := Lib.hid ((b2.block _ (by omega)).trans Pa.out)
  have HB2 : Hid (Below w.heap.size w w2) := Lib.hid (HBa.out.trans (b2.mono (by omega)))
  clear b2 Pa RA SS
  obtain ⟨w2x, hw2x⟩ : ∃ W, w2.alloc (.cells #[.int .i64 rc, .int .i64 ra] 28) = W := ⟨_, rfl⟩
  have P2x : Hid (w2x.heap[w.heap.size]? = some (.cells #[.slice a0 I.length c0, .slice a1 B.length c1, .slice a2 E.length c2] 25 (0, 0))) := Lib.hid (by rw [← hw2x]; exact (Below.heap_alloc w2 _ _ (by omega)).trans P2.out)
  have HB2x : Hid (Below w.heap.size w w2x) := Lib.hid (hw2x ▸ HB2.out.alloc (by omega) _)
  have K2 : Hid (w2x.heap[w2.heap.size]? = some (.cells #[.int .i64 rc, .int .i64 ra] 28 (0, 0))) := Lib.hid (by rw [← hw2x]; exact heap_alloc_new w2 _)
  have z2x : w2.heap.size < w2x.heap.size := (blk K2.out).2.2
  have HW2x := Lib.hid hw2x
  clear hw2x
  go_upto_region 6 with fail
  rw [HW2x.out]
  clear HW2x P2 HB2
  have P2 := P2x
  have HB2 := HB2x
  clear P2x HB2x
  obtain ⟨ks, hks⟩ : ∃ k, w2.heap.size = k := ⟨_, rfl⟩
  rw [hks] at K2 z2x ⊢
  have hks2 : w.heap.size < ks := by omega
  clear hks z2
  rename World => w2
  have z2 : w.heap.size < w2.heap.size := by omega
  obtain ⟨e0, e1, e2⟩ := cells3s P2.out
  go_wp2_with fail
  refine (TA.out _ HB2.out).mono ?_
  rintro e w3 ⟨v0, X1, v1, v2, rfl, O0, M0, p0, O1, O2, b3⟩
  obtain ⟨x0, y0, rfl⟩ := owns3_shape O0
  obtain ⟨x1, y1, rfl⟩ := owns_shape O1
  obtain ⟨x2, y2, rfl⟩ := owns_shape O2
  have RA := Lib.hid (readSp_of O0 M0 O1 O2)
  have z3 := b3.size
  have P3 := Lib.hid ((b3.block _ (by omega)).trans P2.out)
  have HB3 : Hid (Below w.heap.size w w3) := Lib.hid (HB2.out.trans (b3.mono (by omega)))
  have HPS := Lib.hid p0
  have K3 := Lib.hid ((b3.block _ z2x).trans K2.out)
  have z3x : ks < w3.heap.size := by omega
  clear K2
  have X3 := Lib.hid (heap_alloc_new w3 (.cells #[.slice x0 X1.length y0, .slice x1 B.length y1, .slice x2 E.length y2] 33))
  have B3 := Lib.hid ((Below.refl w3.heap.size w3).alloc (Nat.le_refl _) (.cells #[.slice x0 X1.length y0, .slice x1 B.length y1, .slice x2 E.length y2] 33))
  have SI := Lib.hid (i_fetchOp X1 B E o x0 x1 x2 y0 y1 y2 _ (RA.out.below B3.out).1 (RA.out.below B3.out).2.1 (RA.out.below B3.out).2.2 (SML.out X1 p0).1)
  rw [HRES.out X1 p0, HRV.out] at SI
  have EA := Lib.hid (fun (W : World) (b0 b1 b2 : Option Addr) (d0 d1 d2 : Nat) (Y : List ImA) (hY : psI Y = ps) h1 h2 => l_eqSpace x0 x1 x2 b0 b1 b2 y0 y1 y2 d0 d1 d2 X1 Y B E W h1 h2 (p0.trans hY.symm) (SML.out X1 p0).2 q2 q3 (SML.out X1 p0).1.2.2.2.1)
  clear O0 M0 O1 O2 b3 P2 e0 e1 e2 p0
  have K4P : Hid (∀ W, Below (w3.alloc (.cells #[.slice x0 X1.length y0, .slice x1 B.length y1, .slice x2 E.length y2] 33)).heap.size (w3.alloc (.cells #[.slice x0 X1.length y0, .slice x1 B.length y1, .slice x2 E.length y2] 33)) W → W.heap[ks]? = some (.cells #[.int .i64 rc, .int .i64 ra] 28 (0, 0))) := Lib.hid (fun W hb => (hb.block _ (by simp; omega)).trans ((Below.heap_alloc w3 _ _ (by omega)).trans K3.out))
  clear K3
  go_wp2_with fail
  refine SI.out.mono ?_
  rintro e w4 ⟨rfl, b4⟩
  have HK3 := Lib.hid b4
  have zz : (w3.alloc (.cells #[.slice x0 X1.length y0, .slice x1 B.length y1, .slice x2 E.length y2] 33)).heap.size = w3.heap.size + 1 := by simp
  have z4 := b4.size
  rw [zz] at z4
  have P4 := Lib.hid ((b4.block _ (by omega)).trans ((Below.heap_alloc w3 _ _ (by omega)).trans P3.out))
  have X4 := Lib.hid ((b4.block w3.heap.size (by omega)).trans X3.out)
  have RA4 := Lib.hid ((RA.out.below B3.out).below b4)
  have HB4 : Hid (Below w.heap.size w w4) := Lib.hid ((HB3.out.trans (B3.out.mono (by omega))).trans (b4.mono (by omega)))
  clear zz b4 P3 X3 B3 RA SI HRES
  have K4 : Hid (w4.heap[ks]? = some (.cells #[.int .i64 rc, .int .i64 ra] 28 (0, 0))) := Lib.hid (K4P.out w4 HK3.out)
  obtain ⟨W5, hW5⟩ : ∃ W, w4.alloc (.cells #[.int .i64 rc, .int .i64 ra] 28) = W := ⟨_, rfl⟩
  have B5 : Hid (Below w4.heap.size w4 W5) := Lib.hid (hW5 ▸ (Below.refl _ _).alloc (Nat.le_refl _) _)
  have K5 : Hid (W5.heap[w4.heap.size]? = some (.cells #[.int .i64 rc, .int .i64 ra] 28 (0, 0))) := Lib.hid (by rw [← hW5]; exact heap_alloc_new w4 _)
  have z5 : w4.heap.size < W5.heap.size := (blk K5.out).2.2
  have HW5 := Lib.hid hW5
  have L5 := Lib.hid ((B5.out.block _ (blk K4.out).2.2).trans K4.out)
  clear hW5
  go_upto_region 8 with fail
  rw [HW5.out]
  obtain ⟨y0a, y1a⟩ := cells2 K5.out
  obtain ⟨y2a, y3a⟩ := cells2 L5.out
  go_wp2_with fail
  refine (l_eqOp rc ra _).mono ?_
  rintro e w6 ⟨rfl, b6⟩
  have B6 : Hid (Below w4.heap.size w4 w6) := Lib.hid (B5.out.trans (b6.mono (by omega)))
  have P6 := Lib.hid ((B6.out.block _ (by omega)).trans P4.out)
  have X6 := Lib.hid ((B6.out.block _ (by omega)).trans X4.out)
  have RA6 := Lib.hid (RA4.out.below B6.out)
  have HB6 : Hid (Below w.heap.size w w6) := Lib.hid (HB4.out.trans (B6.out.mono (by omega)))
  have z6 := B6.out.size
  have q9 : w.heap.size + 1 ≤ w6.heap.size := by omega
  have z46 : w3.heap.size + 1 ≤ w6.heap.size := by omega
  clear P4 X4 RA4 HB4 K4 B5 K5 L5 HW5 B6 b6 y0a y1a y2a y3a z4 z5 z6
  have P4 := P6
  have X4 := X6
  have RA4 := RA6
  have HB4 := HB6
  have z4 := z46
  clear P6 X6 RA6 HB6
  rename World => w4
  have q0 : w.heap.size < w4.heap.size := by omega
  have q4 : w3.heap.size < w4.heap.size := by omega
  have C0 := cells3s P4.out
  have D0 := cells3s X4.out
  have HC0 := Lib.hid C0
  have HD0 := Lib.hid D0
  obtain ⟨e0, e1, e2⟩ := C0
  obtain ⟨g0, g1, g2⟩ := D0
  go_wp2_with fail
  go_region_held3 (fun w' => (w'.cell? ⟨w.heap.size, 0, none⟩ = some (.slice a0 I.length c0) ∧ w'.cell? ⟨w.heap.size, 1, none⟩ = some (.slice a1 B.length c1) ∧ w'.cell? ⟨w.heap.size, 2, none⟩ = some (.slice a2 E.length c2)) ∧ (w'.cell? ⟨w3.heap.size, 0, none⟩ = some (.slice x0 X1.length y0) ∧ w'.cell? ⟨w3.heap.size, 1, none⟩ = some (.slice x1 B.length y1) ∧ w'.cell? ⟨w3.heap.size, 2, none⟩ = some (.slice x2 E.length y2)))
    (first | go_keep | (exact ⟨keep3s bA q0 HC0.out, keep3s bA q4 HD0.out⟩) | (exact ⟨keep3s bC (by omega) (keep3s bA q0 HC0.out), keep3s bC (by omega) (keep3s bA q4 HD0.out)⟩))
    (first
      | (go_at_call 7; (with_reducible refine (TA.out _ ?_).mono ?_); exact HB4.out.drew; rintro e wA ⟨v0, Y, v1, v2, rfl, O0, M0, p0, O1, O2, bA⟩; obtain ⟨u0, t0, rfl⟩ := owns3_shape O0; obtain ⟨u1, t1, rfl⟩ := owns_shape O1; obtain ⟨u2, t2, rfl⟩ := owns_shape O2; have RY := Lib.hid (readSp_of O0 M0 O1 O2); have HPY := Lib.hid p0; clear O0 M0 O1 O2 p0; have zA : w4.heap.size ≤ wA.heap.size := bA.size)
      | (go_at_call 10; (with_reducible refine (EA.out _ _ _ _ _ _ _ _ HPY.out ?_ ?_).mono ?_); exact RA4.out.below (undrew bA); exact RY.out; rintro e wC ⟨rfl, bC⟩))
  all_goals
    have zA := bA.size
    have HB8 : Hid (Below w.heap.size w wC) := Lib.hid (HB4.out.drew.trans ((bA.trans (bC.mono (by exact zA))).mono (show w.heap.size ≤ w4.heap.size by omega)))
    clear bA bC zA HC0 HD0
    go_wp2
    go_ret
    exact ⟨rfl, HB8.out⟩

theorem own : ownKnob Try.prog.godebug = none := by kernel_rfl
theorem laidOut : laidOutB Try.prog = true := by kernel_rfl

set_option maxRecDepth 100000 in
theorem lifted (os : Os) (started : os.Started) (H : Type) (enc : TypeId × Value → H) :
    ReturnsInHanded {} Try.checked os 3 .any (Rows.fnExactFetchOpSpec.pre6 enc Try.prog Try.f3 Rows.fnExactFetchOpRow.domain false) (Rows.fnExactFetchOpSpec.post enc Try.prog Try.f3 false true false false) := by
  refine returnsInHanded_of_change (C := Try.checked) own started (by kernel_rfl) Try.func3
    (ChangeSpec.witness6 (enc := enc) (C := Try.checked) false ⟨#[], #[.agg #[.slice none 0 0, .slice none 0 0, .slice none 0 0], .int .i64 0], []⟩ 8 (by kernel_rfl) (by kernel_rfl) (by kernel_rfl) (by kernel_rfl)) ?_
  intro W base args ds gs before hval0 hW hcnd _
  have hval : ∀ (j : Nat) t v, Try.f3.params[j]? = some t → args[j]? = some v → Value.okWide Try.prog W .any base t v := hval0
  have hW' := hW
  obtain ⟨p, q, hA0, hV, rfl, hfz, hnd⟩ := hW
  have hA : DataW.TrodAll enc Try.prog W 0 (fun _ => true) true Try.f3.params.toList args.toList ds p := hA0
  rw [Try.params3] at hA hval
  obtain ⟨v0, vs0, d0, ds0, p0, q0, hargs, rfl, rfl, h0, r0⟩ := trodAll_cons hA
  obtain ⟨v1, vs1, d1, ds1, p1, q1, rfl, rfl, rfl, h1, r1⟩ := trodAll_cons r0
  obtain ⟨rfl, rfl, rfl⟩ := trodAll_nil r1
  obtain rfl : args = #[v0, v1] := by cases args; simp_all
  obtain ⟨rfl, rfl⟩ := trodVars_none hV
  have k0 := h0
  have lt0 : ∀ x ∈ p0, x.block < W.heap.size := by obtain ⟨m, hm⟩ := k0; exact DataW.trod_lt m _ _ _ hm
  obtain ⟨x0, y0, z0, X0, Y0, Z0, n0, rfl, _, _, f0, g0, e0⟩ := Joins.open_agg3 Try.underlying25 (by kernel_rfl) (by kernel_rfl) (hval 0 25 v0 rfl rfl) h0
  obtain ⟨aI0, cI0, lI0, rfl, mI0, wI0⟩ := argIms_at Try.underlying22 Try.underlying59 (by kernel_rfl) (by kernel_rfl) Try.underlying9 Try.underlying57 Try.underlying94 (by kernel_rfl) (by kernel_rfl) Try.underlying9 Try.underlying3 Try.underlying3 f0
  obtain ⟨lB0, aB0, cB0, rfl, wB0, mB0, bB0⟩ := argInB_at Try.underlying23 Try.underlying3 (by kernel_rfl) g0
  obtain ⟨lE0, aE0, cE0, rfl, wE0, mE0, bE0⟩ := argInB_at Try.underlying23 Try.underlying3 (by kernel_rfl) e0
  obtain ⟨a1, rfl, rfl, rfl, w1⟩ := open_int Try.underlying3 (hval 1 3 v1 rfl rfl) h1
  clear hA0 hval0
  refine (walk aI0 aB0 aE0 cI0 cB0 cE0 lI0 lB0 lE0 a1 W mI0 mB0 mE0 bE0 ⟨wI0, wB0, wE0⟩ w1).mono fun e W' ⟨he, bel⟩ => ?_
  subst he
  exact ⟨_, rfl, _, _, _, [], _, [], hW', trodAll_mk1 (shut_bool Try.underlying4 _), (trodAll_cons_mk (Below.trod laidOut (by kernel_rfl) (of_decide_eq_true (by kernel_rfl)) k0 bel lt0) (trodAll_cons_mk (shut_int Try.underlying3 w1) trodAll_mk0)), rfl, bel.frame _, fun h => by cases h⟩

theorem over : Rows.fnExactFetchOpRow.holds Try.pinned (OpenSpec.ofChange Rows.fnExactFetchOpSpec) :=
  OpenClaim.holds_of_wide 3 Try.f3 rfl rfl rfl rfl rfl rfl rfl ⟨rfl, rfl, rfl, rfl, rfl⟩ rfl rfl rfl rfl rfl (by kernel_rfl) Try.func3 (by kernel_rfl)
    (of_decide_eq_true (by kernel_rfl)) (by unfold Func.isWrapper; first | (rw [if_pos (by decide +kernel)]; kernel_rfl) | (rw [if_neg (by decide +kernel)]; exact ⟨rfl, rfl⟩))
    (fun os started H enc _ => lifted os started H enc)

theorem proved : Rows.FnExactFetchOpSaid := over
end Go.Proofs.Ytcflojdkaddemab.fnExactFetchOp
