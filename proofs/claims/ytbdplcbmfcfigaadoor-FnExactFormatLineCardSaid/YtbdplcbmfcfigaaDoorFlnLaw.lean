/- The walk of the law on FormatLine. -/
import Derived.Test.YtbdplcbmfcfigaaDoorFlnImpl
import Derived.Test.YtbdplcbmfcfigaaDoorFlnSpec
import Derived.Test.YtbdplcbmfcfigaaDoorLineEq
import Derived.Test.YtbdplcbmfcfigaaDoorLineTo
import Derived.Deep.RegionHeld3
namespace Go.Proofs.YtbdplcbmfcfigaaDoor.fnExactFormatLine
open Go.RowKit Go.Lib

theorem env_of {w : World} (hL : laidMet Tryd.prog Rows.fnExactFormatLineRow.laid w) : Shapes w ∧ Tab w := ⟨shapes_head (laidMet.tail (laidMet.tail (laidMet.tail hL))), pow_of hL⟩
set_option maxRecDepth 100000 in
set_option maxHeartbeats 8000000 in
theorem walk (A : ALine) (w : World) (hA : ArgLn w A) (hL : laidMet Tryd.prog Rows.fnExactFormatLineRow.laid w) :
    Calls Tryd.prog 5 #[.agg #[.int .i64 A.p.kind, .string A.p.name, .slice A.aa A.p.args.length A.ca, .slice A.ae A.p.expr.length A.ce]] w
      fun e w' => e = .returned (.bool true) ∧ Below w.heap.size w w' := by
  have HE := Lib.hid (env_of hL)
  have ZA := Lib.hid (fun (W : World) (left : Int) hb h0 h1 => l_szLine A left W (hA.below hb) h0 h1)
  have LA := Lib.hid (fun (W : World) hs hb => l_toLine A W hs (hA.below hb))
  obtain ⟨⟨k, nm, gs, ex⟩, aa, ca, ae, ce⟩ := A
  dsimp only at ZA LA ⊢
  clear hA hL
  have T0 := Lib.hid (heap_alloc_new w (.cells #[.int .i64 k, .string nm, .slice aa gs.length ca, .slice ae ex.length ce] 43))
  have TB := Lib.hid ((Below.refl w.heap.size w).alloc (Nat.le_refl _) (.cells #[.int .i64 k, .string nm, .slice aa gs.length ca, .slice ae ex.length ce] 43))
  go_enter Tryd.func5, Tryd.ntmps5
  go_wp2_with fail
  refine (ZA.out _ _ TB.out (by omega) (by omega)).mono ?_
  rintro e w1 ⟨r, rfl, b1, hr⟩
  have tz : (w.alloc (.cells #[.int .i64 k, .string nm, .slice aa gs.length ca, .slice ae ex.length ce] 43)).heap.size = w.heap.size + 1 := by simp
  have z1 := b1.size
  rw [tz] at z1 b1
  have P0 := Lib.hid ((b1.block _ (by omega)).trans T0.out)
  have HB1 : Hid (Below w.heap.size w w1) := Lib.hid (TB.out.trans (b1.mono (by omega)))
  clear tz b1 T0 TB
  rcases hr with rfl | ⟨r0, r1, sA⟩
  · go_wp2
    go_ret
    exact ⟨rfl, HB1.out⟩
  have hd : decide (r < 0) = false := by simp; omega
  have TA := Lib.hid (fun (W : World) hb => LA.out W sA hb)
  have hNM : NamesT ex := fun j hj => small_max (sA.2.2.2.2 _ (List.getElem_mem hj))
  have hAZ : ∀ s ∈ gs, s.size ≤ maxLen := fun s hs => small_max (sA.2.2.1 s hs)
  have hg : gs.length ≤ 1048576 := sA.2.1
  have hx : ex.length ≤ 1048576 := sA.2.2.2.1
  have hn : nm.size ≤ 1048576 := sA.1
  have SS := Lib.hid (fun (W : World) (a b : Option Addr) (c d : Nat) h1 h2 => s_fline ⟨k, nm, gs, ex⟩ a b c d W h1 h2 (by dsimp only; omega) hAZ (small_max hn) hx hNM)
  have SI := Lib.hid (fun (W : World) (a b : Option Addr) (c d : Nat) h1 h2 (hc : (gs.length ≤ c ∧ c ≤ maxLen) ∧ (a = none → c = 0)) (hE : Below w.heap.size w W) => i_fline ⟨k, nm, gs, ex⟩ a b c d W h1 h2 ⟨by dsimp only; omega, hc.1.1, hc.1.2, hAZ, small_max hn, hx, hNM⟩ (HE.out.1.on hE) (pow_on HE.out.2 hE) hc.2)
  have EA := Lib.hid (fun (W : World) a1 a2 b1 b2 c1 c2 d1 d2 h1 h2 h3 h4 => l_eqLine k nm gs ex a1 a2 b1 b2 c1 c2 d1 d2 W h1 h2 h3 h4 hg hx)
  obtain ⟨res, hres⟩ : ∃ x, lineT ⟨k, nm, gs, ex⟩ = x := ⟨_, rfl⟩
  dsimp only at SS SI
  rw [hres] at SS SI
  clear hres sA LA ZA hNM hAZ
  obtain ⟨e0, e1, e2, e3⟩ := cells4 P0.out
  go_wp2_with fail
  refine (TA.out _ HB1.out).mono ?_
  rintro e wa ⟨va, ve, rfl, OA, OE, ba⟩
  obtain ⟨xa, ya, rfl⟩ := owns_shape OA
  obtain ⟨xe, ye, rfl⟩ := owns3_shape OE
  have RA := Lib.hid (reads_of OA)
  have RE := Lib.hid (readT_of OE)
  have za := ba.size
  have Pa := Lib.hid ((ba.block _ (by omega)).trans P0.out)
  have HBa : Hid (Below w.heap.size w wa) := Lib.hid (HB1.out.trans (ba.mono (by omega)))
  clear OA OE ba P0 e0 e1 e2 e3 hd
  go_wp2_with fail
  refine (SS.out _ _ _ _ _ RA.out RE.out).mono ?_
  rintro e w2 ⟨rfl, b2⟩
  have z2 := b2.size
  have P2 := Lib.hid ((b2.block _ (by omega)).trans Pa.out)
  have HB2 : Hid (Below w.heap.size w w2) := Lib.hid (HBa.out.trans (b2.mono (by omega)))
  clear b2 Pa RA RE
  obtain ⟨e0, e1, e2, e3⟩ := cells4 P2.out
  go_wp2_with fail
  refine (TA.out _ HB2.out).mono ?_
  rintro e w3 ⟨va, ve, rfl, OA, OE, b3⟩
  obtain ⟨xa, ya, rfl⟩ := owns_shape OA
  obtain ⟨xe, ye, rfl⟩ := owns3_shape OE
  have RA := Lib.hid (reads_of OA)
  have RE := Lib.hid (readT_of OE)
  have HCA := Lib.hid (And.intro (cap_of OA) (nil_of OA))
  have z3 := b3.size
  have P3 := Lib.hid ((b3.block _ (by omega)).trans P2.out)
  have HB3 : Hid (Below w.heap.size w w3) := Lib.hid (HB2.out.trans (b3.mono (by omega)))
  clear OA OE b3 P2 e0 e1 e2 e3
  have X3 := Lib.hid (heap_alloc_new w3 (.cells #[.int .i64 k, .string nm, .slice xa gs.length ya, .slice xe ex.length ye] 29))
  have B3 := Lib.hid ((Below.refl w3.heap.size w3).alloc (Nat.le_refl _) (.cells #[.int .i64 k, .string nm, .slice xa gs.length ya, .slice xe ex.length ye] 29))
  go_wp2_with fail
  refine (SI.out _ xa xe ya ye (RA.out.below B3.out) (RE.out.below B3.out) HCA.out (HB3.out.trans (B3.out.mono (by omega)))).mono ?_
  rintro e w4 ⟨rfl, b4⟩
  have zz : (w3.alloc (.cells #[.int .i64 k, .string nm, .slice xa gs.length ya, .slice xe ex.length ye] 29)).heap.size = w3.heap.size + 1 := by simp
  have z4 := b4.size
  rw [zz] at z4
  have P4 := Lib.hid ((b4.block _ (by omega)).trans ((Below.heap_alloc w3 _ _ (by omega)).trans P3.out))
  have X4 := Lib.hid ((b4.block w3.heap.size (by omega)).trans X3.out)
  have RA4 := Lib.hid ((RA.out.below B3.out).below b4)
  have RE4 := Lib.hid ((RE.out.below B3.out).below b4)
  have HB4 : Hid (Below w.heap.size w w4) := Lib.hid ((HB3.out.trans (B3.out.mono (by omega))).trans (b4.mono (by omega)))
  clear zz b4 P3 X3 B3 RA RE HCA
  have q0 : w.heap.size < w4.heap.size := by omega
  have q3 : w3.heap.size < w4.heap.size := by omega
  have C0 := cells4 P4.out
  have D0 := cells4 X4.out
  have HC0 := Lib.hid C0
  have HD0 := Lib.hid D0
  obtain ⟨e0, e1, e2, e3⟩ := C0
  obtain ⟨g0, g1, g2, g3⟩ := D0
  go_wp2_with fail
  go_region_held3 (fun w' => (w'.cell? ⟨w.heap.size, 0, none⟩ = some (.int .i64 k) ∧ w'.cell? ⟨w.heap.size, 1, none⟩ = some (.string nm) ∧ w'.cell? ⟨w.heap.size, 2, none⟩ = some (.slice aa gs.length ca) ∧ w'.cell? ⟨w.heap.size, 3, none⟩ = some (.slice ae ex.length ce)) ∧ (w'.cell? ⟨w3.heap.size, 0, none⟩ = some (.int .i64 k) ∧ w'.cell? ⟨w3.heap.size, 1, none⟩ = some (.string nm) ∧ w'.cell? ⟨w3.heap.size, 2, none⟩ = some (.slice xa gs.length ya) ∧ w'.cell? ⟨w3.heap.size, 3, none⟩ = some (.slice xe ex.length ye)))
    (first | go_keep | (exact ⟨keep4 bA q0 HC0.out, keep4 bA q3 HD0.out⟩) | (exact ⟨keep4 bC (by omega) (keep4 bA q0 HC0.out), keep4 bC (by omega) (keep4 bA q3 HD0.out)⟩))
    (first
      | (go_at_call 18; (with_reducible refine (TA.out _ ?_).mono ?_); exact HB4.out.drew; rintro e wA ⟨va, ve, rfl, OA, OE, bA⟩; have zA : w4.heap.size ≤ wA.heap.size := bA.size)
      | (go_at_call 20; obtain ⟨ha, ma, rfl⟩ := owns_shape OA; obtain ⟨he, me, rfl⟩ := owns3_shape OE; (with_reducible refine (EA.out _ _ _ _ _ _ _ _ _ ?_ ?_ ?_ ?_).mono ?_); exact RA4.out.below (undrew bA); exact reads_of OA; exact RE4.out.below (undrew bA); exact readT_of OE; rintro e wC ⟨rfl, bC⟩))
  all_goals
    have zA := bA.size
    have HB8 : Hid (Below w.heap.size w wC) := Lib.hid (HB4.out.drew.trans ((bA.trans (bC.mono (by exact zA))).mono (show w.heap.size ≤ w4.heap.size by omega)))
    clear OA OE bA bC zA HC0 HD0
    go_wp2
    go_ret
    exact ⟨rfl, HB8.out⟩
end Go.Proofs.YtbdplcbmfcfigaaDoor.fnExactFormatLine
