/- The walk of the law on SameLine. -/
import Derived.Test.YtbdplcbmfcfigaaSameLine
import Derived.Deep.RegionHeld3
namespace Go.Proofs.Ytbdplcbmfcfigaa.fnExactSameLine
open Go.RowKit Go.Lib

theorem undrew {W w' : World} (h : Below W.drew.heap.size W.drew w') : Below W.heap.size W w' := ⟨h.os, h.tape, h.output, h.size, h.block⟩
theorem cells4 {w : World} {b : Nat} {x0 x1 x2 x3 : Value} {t : TypeId} (h : w.heap[b]? = some (.cells #[x0, x1, x2, x3] t (0, 0))) : w.cell? ⟨b, 0, none⟩ = some x0 ∧ w.cell? ⟨b, 1, none⟩ = some x1 ∧ w.cell? ⟨b, 2, none⟩ = some x2 ∧ w.cell? ⟨b, 3, none⟩ = some x3 :=
  ⟨(blk h).1 0 _ rfl, (blk h).1 1 _ rfl, (blk h).1 2 _ rfl, (blk h).1 3 _ rfl⟩
theorem keep4 {w w' : World} {b : Nat} {x0 x1 x2 x3 : Value} (hb : Below w.heap.size w w') (hlt : b < w.heap.size) (h : w.cell? ⟨b, 0, none⟩ = some x0 ∧ w.cell? ⟨b, 1, none⟩ = some x1 ∧ w.cell? ⟨b, 2, none⟩ = some x2 ∧ w.cell? ⟨b, 3, none⟩ = some x3) :
    w'.cell? ⟨b, 0, none⟩ = some x0 ∧ w'.cell? ⟨b, 1, none⟩ = some x1 ∧ w'.cell? ⟨b, 2, none⟩ = some x2 ∧ w'.cell? ⟨b, 3, none⟩ = some x3 :=
  ⟨(hb.cell (p := ⟨b, 0, none⟩) hlt).trans h.1, (hb.cell (p := ⟨b, 1, none⟩) hlt).trans h.2.1, (hb.cell (p := ⟨b, 2, none⟩) hlt).trans h.2.2.1, (hb.cell (p := ⟨b, 3, none⟩) hlt).trans h.2.2.2⟩

set_option maxRecDepth 100000 in
set_option maxHeartbeats 8000000 in
theorem walk (A B : ALine) (w : World) (hA : ArgLn w A) (hB : ArgLn w B) :
    Calls Try.prog 3 #[.agg #[.int .i64 A.p.kind, .string A.p.name, .slice A.aa A.p.args.length A.ca, .slice A.ae A.p.expr.length A.ce], .agg #[.int .i64 B.p.kind, .string B.p.name, .slice B.aa B.p.args.length B.ca, .slice B.ae B.p.expr.length B.ce]] w
      fun e w' => e = .returned (.bool true) ∧ Below w.heap.size w w' := by
  have ZA := Lib.hid (fun (W : World) (left : Int) hb h0 h1 => l_szLine A left W (hA.below hb) h0 h1)
  have ZB := Lib.hid (fun (W : World) (left : Int) hb h0 h1 => l_szLine B left W (hB.below hb) h0 h1)
  have LA := Lib.hid (fun (W : World) hs hb => l_toLine A W hs (hA.below hb))
  have LB := Lib.hid (fun (W : World) hs hb => l_toLine B W hs (hB.below hb))
  obtain ⟨⟨k, nm, gs, ex⟩, aa, ca, ae, ce⟩ := A
  obtain ⟨⟨k', nm', gs', ex'⟩, aa', ca', ae', ce'⟩ := B
  dsimp only at ZA ZB LA LB ⊢
  clear hA hB
  have T := Lib.hid (two_new w (.cells #[.int .i64 k, .string nm, .slice aa gs.length ca, .slice ae ex.length ce] 25) (.cells #[.int .i64 k', .string nm', .slice aa' gs'.length ca', .slice ae' ex'.length ce'] 25))
  go_enter Try.func3, Try.ntmps3
  go_wp2_with fail
  refine (ZA.out _ _ T.out.2.2.2 (by omega) (by omega)).mono ?_
  rintro e w1 ⟨r, rfl, b1, hr⟩
  obtain ⟨t0, t1, tz, tb⟩ := T.out
  have z1 := b1.size
  rw [tz] at z1 b1
  have P0 := Lib.hid ((b1.block _ (by omega)).trans t0)
  have P1 := Lib.hid ((b1.block _ (by omega)).trans t1)
  have HB1 : Hid (Below w.heap.size w w1) := Lib.hid (tb.trans (b1.mono (by omega)))
  clear t0 t1 tz tb b1 T
  rcases hr with rfl | ⟨r0, r1, sA⟩
  · go_wp2
    go_ret
    exact ⟨rfl, HB1.out⟩
  have HSA := Lib.hid sA
  have hd : decide (r < 0) = false := by simp; omega
  clear sA
  obtain ⟨e0, e1, e2, e3⟩ := cells4 P1.out
  go_wp2_with fail
  refine (ZB.out _ _ HB1.out (by omega) (by omega)).mono ?_
  rintro e w2 ⟨r', rfl, b2, hr⟩
  have z2 := b2.size
  have P02 := Lib.hid ((b2.block _ (by omega)).trans P0.out)
  have P12 := Lib.hid ((b2.block _ (by omega)).trans P1.out)
  have HB2 : Hid (Below w.heap.size w w2) := Lib.hid (HB1.out.trans (b2.mono (by omega)))
  clear b2 P0 P1 e0 e1 e2 e3 hd
  rcases hr with rfl | ⟨r0', r1', sB⟩
  · go_wp2
    go_ret
    exact ⟨rfl, HB2.out⟩
  have HSB := Lib.hid sB
  have hd : decide (r' < 0) = false := by simp; omega
  have TA := Lib.hid (fun (W : World) hb => LA.out W HSA.out hb)
  have TB := Lib.hid (fun (W : World) hb => LB.out W HSB.out hb)
  have SS := Lib.hid (fun (W : World) a1 a2 b1 b2 c1 c2 d1 d2 h1 h2 h3 h4 => s_sameLine ⟨k, nm, gs, ex⟩ ⟨k', nm', gs', ex'⟩ a1 a2 b1 b2 c1 c2 d1 d2 W h1 h2 h3 h4 (by have := HSA.out.2.1; dsimp only at this ⊢; omega) (by have := HSB.out.2.1; dsimp only at this ⊢; omega) (by have := HSA.out.2.2.2.1; dsimp only at this ⊢; omega) (by have := HSB.out.2.2.2.1; dsimp only at this ⊢; omega))
  have SI := Lib.hid (fun (W : World) a1 a2 b1 b2 c1 c2 d1 d2 h1 h2 h3 h4 => i_sameLine ⟨k, nm, gs, ex⟩ ⟨k', nm', gs', ex'⟩ a1 a2 b1 b2 c1 c2 d1 d2 W h1 h2 h3 h4 (by have := HSA.out.2.1; dsimp only at this ⊢; omega) (by have := HSB.out.2.1; dsimp only at this ⊢; omega) (by have := HSA.out.2.2.2.1; dsimp only at this ⊢; omega) (by have := HSB.out.2.2.2.1; dsimp only at this ⊢; omega))
  obtain ⟨res, hres⟩ : ∃ x, sameLB ⟨k, nm, gs, ex⟩ ⟨k', nm', gs', ex'⟩ = x := ⟨_, rfl⟩
  rw [hres] at SS SI
  clear hres sB LA LB ZA ZB
  dsimp only at SS SI
  have C0 := cells4 P02.out
  have C1 := cells4 P12.out
  have HC0 := Lib.hid C0
  have HC1 := Lib.hid C1
  obtain ⟨e0, e1, e2, e3⟩ := C0
  obtain ⟨g0, g1, g2, g3⟩ := C1
  have l0 : w.heap.size < w2.heap.size := by omega
  have l1 : w.heap.size + 1 < w2.heap.size := by omega
  go_wp2_with fail
  go_region_held3 (fun w' => (w'.cell? ⟨w.heap.size, 0, none⟩ = some (.int .i64 k) ∧ w'.cell? ⟨w.heap.size, 1, none⟩ = some (.string nm) ∧ w'.cell? ⟨w.heap.size, 2, none⟩ = some (.slice aa gs.length ca) ∧ w'.cell? ⟨w.heap.size, 3, none⟩ = some (.slice ae ex.length ce)) ∧
      (w'.cell? ⟨w.heap.size + 1, 0, none⟩ = some (.int .i64 k') ∧ w'.cell? ⟨w.heap.size + 1, 1, none⟩ = some (.string nm') ∧ w'.cell? ⟨w.heap.size + 1, 2, none⟩ = some (.slice aa' gs'.length ca') ∧ w'.cell? ⟨w.heap.size + 1, 3, none⟩ = some (.slice ae' ex'.length ce')))
    (first | go_keep | (exact ⟨keep4 bA l0 HC0.out, keep4 bA l1 HC1.out⟩) | (exact ⟨keep4 bB (by omega) (keep4 bA l0 HC0.out), keep4 bB (by omega) (keep4 bA l1 HC1.out)⟩) | (exact ⟨keep4 bC (by omega) (keep4 bB (by omega) (keep4 bA l0 HC0.out)), keep4 bC (by omega) (keep4 bB (by omega) (keep4 bA l1 HC1.out))⟩))
    (first
      | (go_at_call 6; (with_reducible refine (TA.out _ ?_).mono ?_); exact HB2.out.drew; rintro e wA ⟨va, ve, rfl, OA, OE, bA⟩; have zA : w2.heap.size ≤ wA.heap.size := bA.size)
      | (go_at_call 6; (with_reducible refine (TB.out _ ?_).mono ?_); exact (HB2.out.drew.trans (bA.mono (by have := HB2.out.size; exact this))); rintro e wB ⟨vb, vf, rfl, OB, OF, bB⟩; have zB : wA.heap.size ≤ wB.heap.size := bB.size)
      | (go_at_call 5; obtain ⟨xa, ya, rfl⟩ := owns_shape OA; obtain ⟨xe, ye, rfl⟩ := owns3_shape OE; obtain ⟨xb, yb, rfl⟩ := owns_shape OB; obtain ⟨xf, yf, rfl⟩ := owns3_shape OF; (with_reducible refine (SS.out _ _ _ _ _ _ _ _ _ ?_ ?_ ?_ ?_).mono ?_); exact (reads_of OA).below bB; exact reads_of OB; exact (readT_of OE).below bB; exact readT_of OF; rintro e wC ⟨rfl, bC⟩))
  have HB3 : Hid (Below w.heap.size w wC) := Lib.hid (HB2.out.drew.trans ((bA.trans ((bB.mono zA).trans (bC.mono (by omega)))).mono (show w.heap.size ≤ w2.heap.size by omega)))
  have P03 := Lib.hid ((bC.block _ (by omega)).trans ((bB.block _ (by omega)).trans ((bA.block _ l0).trans P02.out)))
  have P13 := Lib.hid ((bC.block _ (by omega)).trans ((bB.block _ (by omega)).trans ((bA.block _ l1).trans P12.out)))
  have zC := bC.size
  have z3 : w.heap.size + 2 ≤ wC.heap.size := by omega
  clear HC0 HC1 OA OB OE OF bA bB bC e0 e1 e2 e3 g0 g1 g2 g3 zA zB zC l0 l1 P02 P12 hd
  obtain ⟨e0, e1, e2, e3⟩ := cells4 P03.out
  go_wp2_with fail
  refine (TA.out _ HB3.out).mono ?_
  rintro e w4 ⟨va, ve, rfl, OA, OE, b4⟩
  obtain ⟨xa, ya, rfl⟩ := owns_shape OA
  obtain ⟨xe, ye, rfl⟩ := owns3_shape OE
  have z4 := b4.size
  have P04 := Lib.hid ((b4.block _ (by omega)).trans P03.out)
  have P14 := Lib.hid ((b4.block _ (by omega)).trans P13.out)
  have RA4 := Lib.hid (reads_of OA)
  have RE4 := Lib.hid (readT_of OE)
  have HB4 : Hid (Below w.heap.size w w4) := Lib.hid (HB3.out.trans (b4.mono (by omega)))
  clear OA OE b4 P03 P13 e0 e1 e2 e3
  obtain ⟨e0, e1, e2, e3⟩ := cells4 P14.out
  have l0 : w.heap.size < w4.heap.size := by omega
  have l1 : w.heap.size + 1 < w4.heap.size := by omega
  go_wp2_with fail
  refine (TB.out _ (HB4.out.alloc (by omega) _)).mono ?_
  rintro e w5 ⟨vb, vf, rfl, OB, OF, b5⟩
  obtain ⟨xb, yb, rfl⟩ := owns_shape OB
  obtain ⟨xf, yf, rfl⟩ := owns3_shape OF
  have zz : (w4.alloc (.cells #[.int .i64 k, .string nm, .slice xa gs.length ya, .slice xe ex.length ye] 30)).heap.size = w4.heap.size + 1 := by simp
  have P05 := Lib.hid ((b5.block _ (by omega)).trans ((Below.heap_alloc w4 _ _ l0).trans P04.out))
  have P15 := Lib.hid ((b5.block _ (by omega)).trans ((Below.heap_alloc w4 _ _ l1).trans P14.out))
  have X05 := Lib.hid ((b5.block w4.heap.size (by omega)).trans (heap_alloc_new w4 _))
  have b45 : Below w4.heap.size w4 (w4.alloc (.cells #[.int .i64 k, .string nm, .slice xa gs.length ya, .slice xe ex.length ye] 30)) := (Below.refl _ _).alloc (Nat.le_refl _) _
  have RA5 := Lib.hid ((RA4.out.below b45).below b5)
  have RE5 := Lib.hid ((RE4.out.below b45).below b5)
  have RB5 := Lib.hid (reads_of OB)
  have RF5 := Lib.hid (readT_of OF)
  have z5 := b5.size
  rw [zz] at z5
  have HB5 : Hid (Below w.heap.size w w5) := Lib.hid ((HB4.out.trans (b45.mono (by omega))).trans (b5.mono (by omega)))
  clear OB OF zz b45 b5 P04 P14 e0 e1 e2 e3 l0 l1
  obtain ⟨e0, e1, e2, e3⟩ := cells4 X05.out
  have l5 : w4.heap.size < w5.heap.size := by omega
  have b56 := (Below.refl w5.heap.size w5).alloc (Nat.le_refl _) (.cells #[.int .i64 k', .string nm', .slice xb gs'.length yb, .slice xf ex'.length yf] 30)
  have X16 := Lib.hid (heap_alloc_new w5 (.cells #[.int .i64 k', .string nm', .slice xb gs'.length yb, .slice xf ex'.length yf] 30))
  have HB56 := Lib.hid b56
  clear b56
  go_wp2_with fail
  refine (SI.out _ xa xb xe xf ya yb ye yf (RA5.out.below HB56.out) (RB5.out.below HB56.out) (RE5.out.below HB56.out) (RF5.out.below HB56.out)).mono ?_
  rintro e w7 ⟨rfl, b7⟩
  have zz : (w5.alloc (.cells #[.int .i64 k', .string nm', .slice xb gs'.length yb, .slice xf ex'.length yf] 30)).heap.size = w5.heap.size + 1 := by simp
  have P07 := Lib.hid ((b7.block _ (by omega)).trans ((Below.heap_alloc w5 _ _ (by omega)).trans P05.out))
  have P17 := Lib.hid ((b7.block _ (by omega)).trans ((Below.heap_alloc w5 _ _ (by omega)).trans P15.out))
  have X07 := Lib.hid ((b7.block _ (by omega)).trans ((Below.heap_alloc w5 _ _ l5).trans X05.out))
  have X17 := Lib.hid ((b7.block w5.heap.size (by omega)).trans X16.out)
  have RA7 := Lib.hid ((RA5.out.below HB56.out).below b7)
  have RE7 := Lib.hid ((RE5.out.below HB56.out).below b7)
  have RB7 := Lib.hid ((RB5.out.below HB56.out).below b7)
  have RF7 := Lib.hid ((RF5.out.below HB56.out).below b7)
  have z7 := b7.size
  rw [zz] at z7
  have HB7 : Hid (Below w.heap.size w w7) := Lib.hid ((HB5.out.trans (HB56.out.mono (by omega))).trans (b7.mono (by omega)))
  clear zz b7 RA4 RE4 RA5 RE5 RB5 RF5 P05 P15 X05 X16 HB56 e0 e1 e2 e3
  have q0 : w.heap.size < w7.heap.size := by omega
  have q1 : w.heap.size + 1 < w7.heap.size := by omega
  have q4 : w4.heap.size < w7.heap.size := by omega
  have q5 : w5.heap.size < w7.heap.size := by omega
  have EA := Lib.hid (fun (W : World) a1 a2 b1 b2 c1 c2 d1 d2 h1 h2 h3 h4 => l_eqLine k nm gs ex a1 a2 b1 b2 c1 c2 d1 d2 W h1 h2 h3 h4 (by have := HSA.out.2.1; dsimp only at this; omega) (by have := HSA.out.2.2.2.1; dsimp only at this; omega))
  have EB := Lib.hid (fun (W : World) a1 a2 b1 b2 c1 c2 d1 d2 h1 h2 h3 h4 => l_eqLine k' nm' gs' ex' a1 a2 b1 b2 c1 c2 d1 d2 W h1 h2 h3 h4 (by have := HSB.out.2.1; dsimp only at this; omega) (by have := HSB.out.2.2.2.1; dsimp only at this; omega))
  have C0 := cells4 P07.out
  have D0 := cells4 X07.out
  have HC0 := Lib.hid C0
  have HD0 := Lib.hid D0
  obtain ⟨e0, e1, e2, e3⟩ := C0
  obtain ⟨g0, g1, g2, g3⟩ := D0
  go_wp2_with fail
  go_region_held3 (fun w' => (w'.cell? ⟨w.heap.size, 0, none⟩ = some (.int .i64 k) ∧ w'.cell? ⟨w.heap.size, 1, none⟩ = some (.string nm) ∧ w'.cell? ⟨w.heap.size, 2, none⟩ = some (.slice aa gs.length ca) ∧ w'.cell? ⟨w.heap.size, 3, none⟩ = some (.slice ae ex.length ce)) ∧ (w'.cell? ⟨w4.heap.size, 0, none⟩ = some (.int .i64 k) ∧ w'.cell? ⟨w4.heap.size, 1, none⟩ = some (.string nm) ∧ w'.cell? ⟨w4.heap.size, 2, none⟩ = some (.slice xa gs.length ya) ∧ w'.cell? ⟨w4.heap.size, 3, none⟩ = some (.slice xe ex.length ye)))
    (first | go_keep | (exact ⟨keep4 bA q0 HC0.out, keep4 bA q4 HD0.out⟩) | (exact ⟨keep4 bC (by omega) (keep4 bA q0 HC0.out), keep4 bC (by omega) (keep4 bA q4 HD0.out)⟩))
    (first
      | (go_at_call 6; (with_reducible refine (TA.out _ ?_).mono ?_); exact HB7.out.drew; rintro e wA ⟨va, ve, rfl, OA, OE, bA⟩; have zA : w7.heap.size ≤ wA.heap.size := bA.size)
      | (go_at_call 8; obtain ⟨ha, ma, rfl⟩ := owns_shape OA; obtain ⟨he, me, rfl⟩ := owns3_shape OE; (with_reducible refine (EA.out _ _ _ _ _ _ _ _ _ ?_ ?_ ?_ ?_).mono ?_); exact RA7.out.below (undrew bA); exact reads_of OA; exact RE7.out.below (undrew bA); exact readT_of OE; rintro e wC ⟨rfl, bC⟩))
  all_goals
    have zA := bA.size
    have zC := bC.size
    have zA' : w7.heap.size ≤ wA.heap.size := zA
    have HB8 : Hid (Below w.heap.size w wC) := Lib.hid (HB7.out.drew.trans ((bA.trans (bC.mono (by exact zA))).mono (show w.heap.size ≤ w7.heap.size by omega)))
    have P18 := Lib.hid ((bC.block _ (by omega)).trans ((bA.block _ q1).trans P17.out))
    have X18 := Lib.hid ((bC.block _ (by omega)).trans ((bA.block _ q5).trans X17.out))
    have RB8 := Lib.hid ((RB7.out.below (undrew bA)).below bC)
    have RF8 := Lib.hid ((RF7.out.below (undrew bA)).below bC)
    have r1 : w.heap.size + 1 < wC.heap.size := by omega
    have r5 : w5.heap.size < wC.heap.size := by omega
    clear OA OE bA bC HC0 HD0 e0 e1 e2 e3 g0 g1 g2 g3 zA zC P07 P17 X07 X17 RA7 RE7 RB7 RF7
    rename World => wd
    have C1 := cells4 P18.out
    have D1 := cells4 X18.out
    have HC1 := Lib.hid C1
    have HD1 := Lib.hid D1
    obtain ⟨e0, e1, e2, e3⟩ := C1
    obtain ⟨g0, g1, g2, g3⟩ := D1
    go_wp2_with fail
    go_region_held3 (fun w' => (w'.cell? ⟨w.heap.size + 1, 0, none⟩ = some (.int .i64 k') ∧ w'.cell? ⟨w.heap.size + 1, 1, none⟩ = some (.string nm') ∧ w'.cell? ⟨w.heap.size + 1, 2, none⟩ = some (.slice aa' gs'.length ca') ∧ w'.cell? ⟨w.heap.size + 1, 3, none⟩ = some (.slice ae' ex'.length ce')) ∧ (w'.cell? ⟨w5.heap.size, 0, none⟩ = some (.int .i64 k') ∧ w'.cell? ⟨w5.heap.size, 1, none⟩ = some (.string nm') ∧ w'.cell? ⟨w5.heap.size, 2, none⟩ = some (.slice xb gs'.length yb) ∧ w'.cell? ⟨w5.heap.size, 3, none⟩ = some (.slice xf ex'.length yf)))
      (first | go_keep | (exact ⟨keep4 bA r1 HC1.out, keep4 bA r5 HD1.out⟩) | (exact ⟨keep4 bC (by omega) (keep4 bA r1 HC1.out), keep4 bC (by omega) (keep4 bA r5 HD1.out)⟩))
      (first
        | (go_at_call 6; (with_reducible refine (TB.out _ ?_).mono ?_); exact HB8.out.drew; rintro e wA ⟨va, ve, rfl, OA, OE, bA⟩; have zA : wd.heap.size ≤ wA.heap.size := bA.size)
        | (go_at_call 8; obtain ⟨ha, ma, rfl⟩ := owns_shape OA; obtain ⟨he, me, rfl⟩ := owns3_shape OE; (with_reducible refine (EB.out _ _ _ _ _ _ _ _ _ ?_ ?_ ?_ ?_).mono ?_); exact RB8.out.below (undrew bA); exact reads_of OA; exact RF8.out.below (undrew bA); exact readT_of OE; rintro e wC ⟨rfl, bC⟩))
    all_goals
      have zA := bA.size
      have HB9 : Hid (Below w.heap.size w wC) := Lib.hid (HB8.out.drew.trans ((bA.trans (bC.mono (by exact zA))).mono (show w.heap.size ≤ wd.heap.size by omega)))
      clear OA OE bA bC zA HC1 HD1
      go_wp2
      go_ret
      exact ⟨rfl, HB9.out⟩
end Go.Proofs.Ytbdplcbmfcfigaa.fnExactSameLine
