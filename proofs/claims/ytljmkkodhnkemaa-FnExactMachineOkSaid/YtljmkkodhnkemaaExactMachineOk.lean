/- MachineOk answers as its model for every machine. No condition. -/
import Derived.Test.YtljmkkodhnkemaaMchOkI
import Derived.Test.YtljmkkodhnkemaaMchArg
import Derived.Deep.RegionHeld3
import Derived.ProofKit
import Derived.OpenShut
import Derived.ShutString
import Derived.ChangeOld
import Derived.Below
import Derived.Carry
namespace Go.Proofs.Ytljmkkodhnkemaa.fnExactMachineOk
open Go.ChangeShapes Go.WideShapes Go.ChangeAt Go.RowKit Go.Lib
open Go.ChangeMaps (open_string shut_string)

theorem keep7 {w w' : World} {b : Nat} {x0 x1 x2 x3 x4 x5 x6 : Value} (hb : Below w.heap.size w w') (hlt : b < w.heap.size) (h : w.cell? ⟨b, 0, none⟩ = some (x0) ∧ w.cell? ⟨b, 1, none⟩ = some (x1) ∧ w.cell? ⟨b, 2, none⟩ = some (x2) ∧ w.cell? ⟨b, 3, none⟩ = some (x3) ∧ w.cell? ⟨b, 4, none⟩ = some (x4) ∧ w.cell? ⟨b, 5, none⟩ = some (x5) ∧ w.cell? ⟨b, 6, none⟩ = some (x6)) : w'.cell? ⟨b, 0, none⟩ = some (x0) ∧ w'.cell? ⟨b, 1, none⟩ = some (x1) ∧ w'.cell? ⟨b, 2, none⟩ = some (x2) ∧ w'.cell? ⟨b, 3, none⟩ = some (x3) ∧ w'.cell? ⟨b, 4, none⟩ = some (x4) ∧ w'.cell? ⟨b, 5, none⟩ = some (x5) ∧ w'.cell? ⟨b, 6, none⟩ = some (x6) :=
  ⟨(hb.cell (p := ⟨b, 0, none⟩) hlt).trans h.1, (hb.cell (p := ⟨b, 1, none⟩) hlt).trans h.2.1, (hb.cell (p := ⟨b, 2, none⟩) hlt).trans h.2.2.1, (hb.cell (p := ⟨b, 3, none⟩) hlt).trans h.2.2.2.1, (hb.cell (p := ⟨b, 4, none⟩) hlt).trans h.2.2.2.2.1, (hb.cell (p := ⟨b, 5, none⟩) hlt).trans h.2.2.2.2.2.1, (hb.cell (p := ⟨b, 6, none⟩) hlt).trans h.2.2.2.2.2.2⟩
set_option maxRecDepth 100000 in
set_option maxHeartbeats 4000000 in
theorem walk (m : McL) (aS aO : Option Addr) (cS cO : Nat) (w : World) (ha : ArgM w aS aO m) (hS : m.st.length ≤ maxLen) (hO : m.out.length ≤ maxLen) (_ : McNum m) :
    Calls Try.prog 3 #[mcA m (.slice aS m.st.length cS) (.slice aO m.out.length cO)] w fun e w' => e = .returned (.bool true) ∧ Below w.heap.size w w' := by
  have T0 := Lib.hid (heap_alloc_new w (.cells (mcRow m (.slice aS m.st.length cS) (.slice aO m.out.length cO)) 24))
  have TB := Lib.hid ((Below.refl w.heap.size w).alloc (Nat.le_refl _) (.cells (mcRow m (.slice aS m.st.length cS) (.slice aO m.out.length cO)) 24))
  have SZ := Lib.hid (l_szMachine m aS aO cS cO 1048576 (w.alloc (.cells (mcRow m (.slice aS m.st.length cS) (.slice aO m.out.length cO)) 24)) hS hO (by omega) (by omega))
  have TA := Lib.hid (fun (W : World) (hb : Below w.heap.size w W) h1 h2 => l_toMachine m aS aO cS cO W (ha.below hb) h1 h2)
  have SI := Lib.hid (fun (sa oa : Option Addr) (sc on oc : Nat) (W : World) => s_machineOk' m sa oa sc on oc W)
  have II := Lib.hid (fun (sa oa : Option Addr) (sc on oc : Nat) (W : World) => i_machineOk m sa oa sc on oc W)
  have EA := Lib.hid (fun (a0 a1 b0 b1 : Option Addr) (c0 c1 d0 d1 : Nat) (W : World) h1 h2 h3 h4 l1 l2 => l_eqMachine m a0 a1 b0 b1 c0 c1 d0 d1 W h1 h2 h3 h4 l1 l2)
  obtain ⟨res, hres⟩ : ∃ x, mokB m = x := ⟨_, rfl⟩
  rw [hres] at SI II
  obtain ⟨pc, sp, fp, st, out, stt, val⟩ := m
  unfold mcA mcRow at SZ SI II EA
  unfold mcRow at T0 TB
  unfold MaRes mcA mcRow at TA
  unfold mcA mcRow
  dsimp only at T0 TB SZ TA SI II EA ⊢
  obtain ⟨sn, hsn⟩ : ∃ x, st.length = x := ⟨_, rfl⟩
  obtain ⟨on, hon⟩ : ∃ x, out.length = x := ⟨_, rfl⟩
  rw [hsn] at T0 TB SZ TA SI II EA ⊢
  rw [hon] at T0 TB SZ TA EA ⊢
  have HSN := Lib.hid hsn
  have HON := Lib.hid hon
  clear ha hS hO hsn hon hres
  go_enter Try.func3, Try.ntmps3
  go_wp2_with fail
  refine SZ.out.mono ?_
  rintro e w1 ⟨r, rfl, b1, hr⟩
  have tz : (w.alloc (.cells #[.int .i64 pc, .int .i64 sp, .int .i64 fp, .slice aS sn cS, .slice aO on cO, .int .i64 stt, .int .i64 val] 24)).heap.size = w.heap.size + 1 := by simp
  have z1 := b1.size
  rw [tz] at z1 b1
  have P0 := Lib.hid ((b1.block _ (by omega)).trans T0.out)
  have HB1 : Hid (Below w.heap.size w w1) := Lib.hid (TB.out.trans (b1.mono (by omega)))
  clear tz b1 T0 TB SZ
  rcases hr with rfl | ⟨hr0, hr1⟩
  · go_wp2
    go_ret
    exact ⟨rfl, HB1.out⟩
  have q1 : sn ≤ 1048576 := by omega
  have q2 : on ≤ 1048576 := by omega
  have hd : decide (r < 0) = false := by simp; omega
  clear hr1
  obtain ⟨⟨j0, j1, j2, j3, j4, j5, j6⟩, _, _⟩ := res7 P0.out
  go_wp2_with fail
  refine (TA.out _ HB1.out q1 q2).mono ?_
  rintro e wa ⟨v1, v2, rfl, O1, O2, _, ba⟩
  obtain ⟨x1, y1, rfl⟩ := owns_shape O1
  obtain ⟨x2, y2, rfl⟩ := owns_shape O2
  have za := ba.size
  have Pa := Lib.hid ((ba.block _ (by omega)).trans P0.out)
  have HBa : Hid (Below w.heap.size w wa) := Lib.hid (HB1.out.trans (ba.mono (by omega)))
  clear O1 O2 ba P0 j0 j1 j2 j3 j4 j5 j6 hd
  go_wp2_with fail
  refine (SI.out _ _ _ _ _ _).mono ?_
  rintro e w2 ⟨rfl, b2⟩
  have z2 := b2.size
  have P2 := Lib.hid ((b2.block _ (by omega)).trans Pa.out)
  have HB2 : Hid (Below w.heap.size w w2) := Lib.hid (HBa.out.trans (b2.mono (by omega)))
  clear b2 Pa
  obtain ⟨⟨j0, j1, j2, j3, j4, j5, j6⟩, _, _⟩ := res7 P2.out
  go_wp2_with fail
  refine (TA.out _ HB2.out q1 q2).mono ?_
  rintro e w3 ⟨v1, v2, rfl, O1, O2, _, b3⟩
  obtain ⟨x1, y1, rfl⟩ := owns_shape O1
  obtain ⟨x2, y2, rfl⟩ := owns_shape O2
  have z3 := b3.size
  have P3 := Lib.hid ((b3.block _ (by omega)).trans P2.out)
  have HB3 : Hid (Below w.heap.size w w3) := Lib.hid (HB2.out.trans (b3.mono (by omega)))
  have R1 := Lib.hid (readI_of (by rw [← HSN.out] at O1; exact O1))
  have R2 := Lib.hid (readI_of (by rw [← HON.out] at O2; exact O2))
  have X3 := Lib.hid (heap_alloc_new w3 (.cells #[.int .i64 pc, .int .i64 sp, .int .i64 fp, .slice x1 sn y1, .slice x2 on y2, .int .i64 stt, .int .i64 val] 27))
  have B3 := Lib.hid ((Below.refl w3.heap.size w3).alloc (Nat.le_refl _) (.cells #[.int .i64 pc, .int .i64 sp, .int .i64 fp, .slice x1 sn y1, .slice x2 on y2, .int .i64 stt, .int .i64 val] 27))
  clear O1 O2 b3 P2 j0 j1 j2 j3 j4 j5 j6
  go_wp2_with fail
  refine (II.out _ _ _ _ _ _).mono ?_
  rintro e w4 ⟨rfl, b4⟩
  have zz : (w3.alloc (.cells #[.int .i64 pc, .int .i64 sp, .int .i64 fp, .slice x1 sn y1, .slice x2 on y2, .int .i64 stt, .int .i64 val] 27)).heap.size = w3.heap.size + 1 := by simp
  have z4 := b4.size
  rw [zz] at z4
  have P4 := Lib.hid ((b4.block _ (by omega)).trans ((Below.heap_alloc w3 _ _ (by omega)).trans P3.out))
  have X4 := Lib.hid ((b4.block w3.heap.size (by omega)).trans X3.out)
  have S1 := Lib.hid ((R1.out.below B3.out).below b4)
  have S2 := Lib.hid ((R2.out.below B3.out).below b4)
  have HB4 : Hid (Below w.heap.size w w4) := Lib.hid ((HB3.out.trans (B3.out.mono (by omega))).trans (b4.mono (by omega)))
  clear zz b4 P3 X3 B3 R1 R2 II SI
  have q0 : w.heap.size < w4.heap.size := by omega
  have q4 : w3.heap.size < w4.heap.size := by omega
  have C0 := (res7 P4.out).1
  have D0 := (res7 X4.out).1
  have HC0 := Lib.hid C0
  have HD0 := Lib.hid D0
  obtain ⟨e0, e1, e2, e3, e4, e5, e6⟩ := C0
  obtain ⟨g0, g1, g2, g3, g4, g5, g6⟩ := D0
  go_wp2_with fail
  go_region_held3 (fun w' => (w'.cell? ⟨w.heap.size, 0, none⟩ = some (.int .i64 pc) ∧ w'.cell? ⟨w.heap.size, 1, none⟩ = some (.int .i64 sp) ∧ w'.cell? ⟨w.heap.size, 2, none⟩ = some (.int .i64 fp) ∧ w'.cell? ⟨w.heap.size, 3, none⟩ = some (.slice aS sn cS) ∧ w'.cell? ⟨w.heap.size, 4, none⟩ = some (.slice aO on cO) ∧ w'.cell? ⟨w.heap.size, 5, none⟩ = some (.int .i64 stt) ∧ w'.cell? ⟨w.heap.size, 6, none⟩ = some (.int .i64 val)) ∧ (w'.cell? ⟨w3.heap.size, 0, none⟩ = some (.int .i64 pc) ∧ w'.cell? ⟨w3.heap.size, 1, none⟩ = some (.int .i64 sp) ∧ w'.cell? ⟨w3.heap.size, 2, none⟩ = some (.int .i64 fp) ∧ w'.cell? ⟨w3.heap.size, 3, none⟩ = some (.slice x1 sn y1) ∧ w'.cell? ⟨w3.heap.size, 4, none⟩ = some (.slice x2 on y2) ∧ w'.cell? ⟨w3.heap.size, 5, none⟩ = some (.int .i64 stt) ∧ w'.cell? ⟨w3.heap.size, 6, none⟩ = some (.int .i64 val)))
    (first | go_keep | (exact ⟨keep7 bA q0 HC0.out, keep7 bA q4 HD0.out⟩) | (exact ⟨keep7 bC (by omega) (keep7 bA q0 HC0.out), keep7 bC (by omega) (keep7 bA q4 HD0.out)⟩))
    (first
      | (go_at_call 7; (with_reducible refine (TA.out _ ?_ q1 q2).mono ?_); exact HB4.out.drew; rintro e wA ⟨v1, v2, rfl, O1, O2, _, bA⟩; obtain ⟨u1, t1, rfl⟩ := owns_shape O1; obtain ⟨u2, t2, rfl⟩ := owns_shape O2; have RY1 := Lib.hid (readI_of (by rw [← HSN.out] at O1; exact O1)); have RY2 := Lib.hid (readI_of (by rw [← HON.out] at O2; exact O2)); clear O1 O2; have zA : w4.heap.size ≤ wA.heap.size := bA.size)
      | (go_at_call 9; (with_reducible refine (EA.out _ _ _ _ _ _ _ _ _ ?_ ?_ ?_ ?_ q1 q2).mono ?_); exact S1.out.below (undrew bA); exact S2.out.below (undrew bA); exact RY1.out; exact RY2.out; rintro e wC ⟨rfl, bC⟩))
  all_goals
    have zA := bA.size
    have HB8 : Hid (Below w.heap.size w wC) := Lib.hid (HB4.out.drew.trans ((bA.trans (bC.mono (by exact zA))).mono (show w.heap.size ≤ w4.heap.size by omega)))
    clear bA bC zA HC0 HD0
    go_wp2
    go_ret
    exact ⟨rfl, HB8.out⟩

theorem own : ownKnob Try.prog.godebug = none := by kernel_rfl
theorem laidOut : laidOutB Try.prog = true := by kernel_rfl

set_option maxRecDepth 100000 in
theorem lifted (os : Os) (started : os.Started) (H : Type) (enc : TypeId × Value → H) :
    ReturnsInHanded {} Try.checked os 3 .any (Rows.fnExactMachineOkSpec.pre6 enc Try.prog Try.f3 Rows.fnExactMachineOkRow.domain false) (Rows.fnExactMachineOkSpec.post enc Try.prog Try.f3 false true false false) := by
  refine returnsInHanded_of_change (C := Try.checked) own started (by kernel_rfl) Try.func3
    (ChangeSpec.witness6 (enc := enc) (C := Try.checked) false ⟨#[], #[.agg #[.int .i64 0, .int .i64 0, .int .i64 0, .slice none 0 0, .slice none 0 0, .int .i64 0, .int .i64 0]], []⟩ 8 (by kernel_rfl) (by kernel_rfl) (by kernel_rfl) (by kernel_rfl)) ?_
  intro W base args ds gs before hval0 hW hcnd _
  have hval : ∀ (j : Nat) t v, Try.f3.params[j]? = some t → args[j]? = some v → Value.okWide Try.prog W .any base t v := hval0
  have hW' := hW
  obtain ⟨p, q, hA0, hV, rfl, hfz, hnd⟩ := hW
  have hA : DataW.TrodAll enc Try.prog W 0 (fun _ => true) true Try.f3.params.toList args.toList ds p := hA0
  rw [Try.params3] at hA hval
  obtain ⟨v0, vs0, d0, ds0, p0, q0, hargs, rfl, rfl, h0, r0⟩ := trodAll_cons hA
  obtain ⟨rfl, rfl, rfl⟩ := trodAll_nil r0
  obtain rfl : args = #[v0] := by cases args; simp_all
  obtain ⟨rfl, rfl⟩ := trodVars_none hV
  have k0 := h0
  have lt0 : ∀ x ∈ p0, x.block < W.heap.size := by obtain ⟨m, hm⟩ := k0; exact DataW.trod_lt m _ _ _ hm
  obtain ⟨M0, aS0, aO0, cS0, cO0, rfl, wA0, wS0, wO0, wN0⟩ := argM_at Try.underlying24 (by kernel_rfl) (by kernel_rfl) Try.underlying3 Try.underlying22 (by kernel_rfl) ⟨rfl, rfl, rfl, rfl, rfl, rfl, rfl⟩ (hval 0 24 v0 rfl rfl) h0
  clear hA0 hval0
  refine (walk M0 aS0 aO0 cS0 cO0 W wA0 wS0 wO0 wN0).mono fun e W' ⟨he, bel⟩ => ?_
  subst he
  exact ⟨_, rfl, _, _, _, [], _, [], hW', trodAll_mk1 (shut_bool Try.underlying4 _), (trodAll_cons_mk (Below.trod laidOut (by kernel_rfl) (of_decide_eq_true (by kernel_rfl)) k0 bel lt0) trodAll_mk0), rfl, bel.frame _, fun h => by cases h⟩

theorem over : Rows.fnExactMachineOkRow.holds Try.pinned (OpenSpec.ofChange Rows.fnExactMachineOkSpec) :=
  OpenClaim.holds_of_wide 3 Try.f3 rfl rfl rfl rfl rfl rfl rfl ⟨rfl, rfl, rfl, rfl, rfl⟩ rfl rfl rfl rfl rfl (by kernel_rfl) Try.func3 (by kernel_rfl)
    (of_decide_eq_true (by kernel_rfl)) (by unfold Func.isWrapper; first | (rw [if_pos (by decide +kernel)]; kernel_rfl) | (rw [if_neg (by decide +kernel)]; exact ⟨rfl, rfl⟩))
    (fun os started H enc _ => lifted os started H enc)

theorem proved : Rows.FnExactMachineOkSaid := over
end Go.Proofs.Ytljmkkodhnkemaa.fnExactMachineOk
