/- The walk of the law on folding: a folded program puts out and visits what the program does, and is folded for good. -/
import Derived.Test.YtcnnfhcpkbjolaaDoorSrun
import Derived.Test.YtcnnfhcpkbjolaaDoorSameRuns
import Derived.Test.YtcnnfhcpkbjolaaDoorSameLs
import Derived.Test.YtcnnfhcpkbjolaaDoorDrawP
import Derived.Test.YtcnnfhcpkbjolaaDoorDrawnOk
import Derived.Test.YtcnnfhcpkbjolaaDoorBig
import Derived.Test.YtcnnfhcpkbjolaaDoorPlainR
import Derived.Test.YtcnnfhcpkbjolaaDoorFoldMean
import Derived.Test.YtcnnfhcpkbjolaaDoorSavBoth
namespace Go.Proofs.YtcnnfhcpkbjolaaDoor.fnFolded
open Go.RowKit Go.Lib

theorem goes_small {p : List PLine} (ho : OkI p) {lim : Nat} (hl : lim ≤ 1000) {r : RunRes} {s' : RunS} (h : GoesTo p lim r s') : s'.vis.length ≤ lim ∧ s'.out.length ≤ lim ∧ (∀ v ∈ s'.vis, v.length ≤ 7) ∧ codR r ≠ 3 := by
  obtain ⟨N, hN⟩ := h
  have h1 : s'.vis.length ≤ lim := (runF_grown _ _ _ _ _ _ _ _ hN).2.2.1 (Nat.zero_le _)
  have h2 := run_outs _ _ _ _ _ _ _ _ _ hN
  have h3 := run_shapes p appZ arN lim ho N (.lines [] 0 (locZ p ((0 : Nat) : Int)) (callVars p 0 []) (0 + 1)) ⟨[], []⟩ ⟨Chain.main, Nat.zero_le _, by omega⟩ (fun v hv => by cases hv) _ hN
  have h4 := run_fits _ _ _ _ _ _ _ _ _ hN
  unfold Outs at h2
  simp only [List.length_nil] at h2
  refine ⟨h1, by omega, fun v hv => ?_, ?_⟩
  · obtain ⟨c, f, k, e, _, hc, _⟩ := h3 v hv
    rw [e, List.length_append]
    simp
    omega
  · cases r with
    | ret v => exact (by decide : (0 : Int) ≠ 3)
    | stop q => have := h4.stops; exact (by omega : q ≠ 3)
    | val v i => exact h4.elim
    | vals ws i => exact h4.elim
/-- The folded program's run. -/
theorem goes_fold {p : List PLine} (ho : OkI p) {lim : Nat} {r : RunRes} {s' : RunS} (h : GoesTo p lim r s') : GoesTo (foldP p) lim r s' := by
  obtain ⟨N, hN⟩ := h
  have h1 := fold_run ho N _ _ _ _ hN (main_fun ho) (by omega)
  obtain ⟨M, hM⟩ := h1
  refine ⟨M, ?_⟩
  rw [locZ_fold, callVars_fold]
  exact hM
theorem sav_pos (p : List PLine) : 0 ≤ savZ p := by
  unfold savZ
  split
  · have := cntP_fold p; omega
  · omega
theorem sav_fold {p : List PLine} (ho : OkI p) : savZ (foldP p) = 0 := by
  unfold savZ
  rw [if_pos ((pokB_iff _).2 (ok_fold ho)), foldP_again p ho.1.2]
  omega
theorem szal_ok {X : List LnL} (h : OkI (plL X)) : SzAl X := fun x hx => line_small _ (h.1.2 _ (List.mem_map_of_mem hx))
theorem len_ok {X : List LnL} (h : OkI (plL X)) : X.length ≤ 60 := by have := h.1.1; rwa [plL_length] at this

set_option maxRecDepth 100000 in
set_option maxHeartbeats 8000000 in
theorem walk (a0 : Option Addr) (len0 cap0 : Nat) (z0 : List Int) (w : World) (w0 : IsRow .u8 w a0 len0 cap0 z0) (hL : laidMet Tryd.prog Rows.fnFoldedRow.laid w) :
    Calls Tryd.prog 3 #[.slice a0 len0 cap0] w fun e w' => e = .returned (.bool true) ∧ Below w.heap.size w w' := by
  have HC := Lib.hid w0
  have HSH := Lib.hid (fun (W : World) (hb : Below w.heap.size w W) => (shapes_head hL).on hb)
  have hlen : len0 ≤ 9223372036854775807 := by
    rcases w0 with ⟨_, rfl, _, _⟩ | ⟨x, _, h1, h2, _⟩
    · omega
    · unfold maxLen at h2; omega
  clear hL w0
  by_cases hb : 1048576 < len0
  · go_enter Tryd.func3, Tryd.ntmps3
    go_wp2_with fail
    refine (big_yes a0 len0 cap0 _ hb hlen).mono ?_
    rintro e w' ⟨rfl, rfl⟩
    go_wp2
    go_ret
    exact ⟨rfl, Below.refl _ _⟩
  have hb' : len0 ≤ 1048576 := by omega
  go_enter Tryd.func3, Tryd.ntmps3
  go_wp2_with fail
  refine (big_no a0 len0 cap0 _ hb').mono ?_
  rintro e w' ⟨rfl, rfl⟩
  go_wp2_with fail
  refine (d_program a0 len0 cap0 z0 _ HC.out hb').mono ?_
  rintro e w1 ⟨v, X, rfl, O1, hne, A1, ok1, x0, x1, b1⟩
  obtain ⟨g, cp, rfl⟩ := own_formT O1 x0
  have hcap := own_cap4 O1
  have HCP := Lib.hid hcap
  have R1 := Lib.hid (readL_of O1 A1)
  have HB1 := Lib.hid b1
  have hs1 := b1.size
  have HSM : Hid (SzAl X) := Lib.hid (fun x hx => line_small _ (ok1 x hx).line)
  have hlx : X.length ≤ 1048576 := by omega
  clear O1 A1 ok1 b1 hne hcap
  obtain ⟨b, hb2⟩ : ∃ b, pokB (plL X) = b := ⟨_, rfl⟩
  have SPO := Lib.hid (s_progOkB (some ⟨g, 0, none⟩) cp X w1 hlx R1.out HSM.out)
  have FP := Lib.hid (fun (W : World) (hb : Below w1.heap.size w1 W) => i_foldProgram (some ⟨g, 0, none⟩) cp X W hlx HCP.out (R1.out.below hb) HSM.out (HSH.out W (HB1.out.trans (hb.mono hs1))))
  rw [hb2] at SPO FP
  go_wp2_with fail
  refine SPO.out.mono ?_
  rintro e w2 ⟨rfl, b2⟩
  have HA2 := Lib.hid b2
  have z2 := b2.size
  have FP2 := Lib.hid (FP.out w2 b2)
  clear b2 FP
  cases b
  · clear hb2
    go_wp2_with fail
    refine FP2.out.mono ?_
    rintro e w3 ⟨v3, Y, rfl, O3, M3, yp, b3⟩
    have hY : Y = [] := by
      have h : plL Y = [] := yp
      exact List.map_eq_nil_iff.1 h
    subst hY
    obtain ⟨ya, yc, rfl⟩ := owns3_shape O3
    have HB3 : Hid (Below w.heap.size w w3) := Lib.hid ((HB1.out.trans (HA2.out.mono hs1)).trans (b3.mono (by omega)))
    clear b3 O3 M3 yp
    go_wp2
    go_ret
    exact ⟨rfl, HB3.out⟩
  have ho : OkI (plL X) := (pokB_iff _).1 hb2
  have HO := Lib.hid ho
  have HOF := Lib.hid (ok_fold ho)
  obtain ⟨r1, s1, hg1⟩ := goes ho 60
  have hsm1 := goes_small ho (by omega) hg1
  have HG1 := Lib.hid hg1
  have HGF := Lib.hid (goes_fold ho hg1)
  have HSM1 := Lib.hid hsm1
  have HSP := Lib.hid (sav_pos (plL X))
  have HSF := Lib.hid (sav_fold ho)
  have HAG := Lib.hid (foldP_again (plL X) ho.1.2)
  clear hb2 ho hg1 hsm1
  go_wp2_with fail
  refine FP2.out.mono ?_
  rintro e w3 ⟨v3, Y, rfl, O3, M3, yp, b3⟩
  obtain ⟨ya, yc, rfl⟩ := owns3_shape O3
  have yp' : plL Y = foldP (plL X) := yp
  have HYP := Lib.hid yp'
  have HOY : Hid (OkI (plL Y)) := Lib.hid (by rw [yp']; exact HOF.out)
  have HCY := Lib.hid (own_cap4 O3)
  have RY := Lib.hid (readL_of O3 M3.all)
  have HSY := Lib.hid (szal_ok HOY.out)
  have hly : Y.length ≤ 1048576 := by have := len_ok HOY.out; omega
  have HA3 : Hid (Below w1.heap.size w1 w3) := Lib.hid (HA2.out.trans (b3.mono z2))
  have z3 := HA3.out.size
  have II1 := Lib.hid (s_interpret (some ⟨g, 0, none⟩) cp X 60 w3 hlx (R1.out.below HA3.out) HSM.out HO.out (by omega) (by omega) r1 s1 HG1.out)
  have II2 := Lib.hid (fun (W : World) (hb : Below w3.heap.size w3 W) => s_interpret ya yc Y 60 W hly (RY.out.below hb) HSY.out HOY.out (by omega) (by omega) r1 s1 (by rw [HYP.out]; exact HGF.out))
  generalize codR r1 = c1 at *
  generalize valR r1 = d1 at *
  clear b3 O3 M3 yp yp' FP2
  go_wp2_with fail
  refine II1.out.mono ?_
  rintro e w4 ⟨ov1, vv1, Y1, rfl, hR1, b4⟩
  obtain ⟨oa, oc, rfl⟩ := owns_shape hR1.out
  obtain ⟨va, vc, rfl⟩ := owns_shape hR1.vis
  have ba : Below w4.heap.size w4 (w4.alloc (.cells #[.slice oa s1.out.length oc, .slice va Y1.length vc, .int .i64 d1, .int .i64 c1] 31)) := (Below.refl _ _).alloc (Nat.le_refl _) _
  have HA4 : Hid (Below w3.heap.size w3 (w4.alloc (.cells #[.slice oa s1.out.length oc, .slice va Y1.length vc, .int .i64 d1, .int .i64 c1] 31))) := Lib.hid (b4.trans (ba.mono b4.size))
  have P4 := Lib.hid (heap_alloc_new w4 (.cells #[.slice oa s1.out.length oc, .slice va Y1.length vc, .int .i64 d1, .int .i64 c1] 31))
  have RR1 := Lib.hid (hR1.below ba)
  clear b4 ba hR1 II1
  go_wp2_with fail
  refine (II2.out _ HA4.out).mono ?_
  rintro e w5 ⟨ov2, vv2, Y2, rfl, hR2, b5⟩
  obtain ⟨ob, oc3, rfl⟩ := owns_shape hR2.out
  obtain ⟨vb, vc3, rfl⟩ := owns_shape hR2.vis
  have ba : Below w5.heap.size w5 (w5.alloc (.cells #[.slice ob s1.out.length oc3, .slice vb Y2.length vc3, .int .i64 d1, .int .i64 c1] 31)) := (Below.refl _ _).alloc (Nat.le_refl _) _
  have bb := b5.trans (ba.mono b5.size)
  have HA5 := Lib.hid (HA4.out.trans (bb.mono HA4.out.size))
  have P45 := Lib.hid ((bb.block _ (blk P4.out).2.2).trans P4.out)
  have P55 := Lib.hid (heap_alloc_new w5 (.cells #[.slice ob s1.out.length oc3, .slice vb Y2.length vc3, .int .i64 d1, .int .i64 c1] 31))
  have RR15 := Lib.hid (RR1.out.below bb)
  have RR25 := Lib.hid (hR2.below ba)
  obtain ⟨W5, hW5⟩ : ∃ W, w5.alloc (.cells #[.slice ob s1.out.length oc3, .slice vb Y2.length vc3, .int .i64 d1, .int .i64 c1] 31) = W := ⟨_, rfl⟩
  rw [hW5] at HA5 P45 P55 RR15 RR25
  have HW5 := Lib.hid hW5
  have HL1 : Hid (Y1.length = s1.vis.length) := Lib.hid RR15.out.len
  have HL2 : Hid (Y2.length = s1.vis.length) := Lib.hid RR25.out.len
  have hm1 := HSM1.out.1
  have hm2 := HSM1.out.2.1
  have hY1 := HL1.out
  have SV := Lib.hid (fun (W : World) (hb : Below W5.heap.size W5 W) => l_sameVisits va vb vc vc3 Y1 Y2 W (by omega) (by rw [RR15.out.xs, RR25.out.xs]) ((readV_of RR15.out.vis RR15.out.made).below hb) ((readV_of RR25.out.vis RR25.out.made).below hb) (fun x hx => by
      have := HSM1.out.2.2.1 x.xs (by rw [← RR15.out.xs]; exact List.mem_map_of_mem hx)
      omega))
  have SO := Lib.hid (fun (W : World) (hb : Below W5.heap.size W5 W) => l_sameInts oa ob oc oc3 s1.out W ((readI_of RR15.out.out).below hb) ((readI_of RR25.out.out).below hb) (by omega))
  have KA : Hid (∀ W, Below W5.heap.size W5 W → W.cell? ⟨w4.heap.size, 0, none⟩ = some (.slice oa s1.out.length oc) ∧ W.cell? ⟨w4.heap.size, 1, none⟩ = some (.slice va Y1.length vc) ∧ W.cell? ⟨w4.heap.size, 2, none⟩ = some (.int .i64 d1) ∧ W.cell? ⟨w4.heap.size, 3, none⟩ = some (.int .i64 c1)) := Lib.hid (fun W hb => by
    have h2 := blk ((hb.block _ (blk P45.out).2.2).trans P45.out)
    exact ⟨h2.1 0 _ rfl, h2.1 1 _ rfl, h2.1 2 _ rfl, h2.1 3 _ rfl⟩)
  have KB : Hid (∀ W, Below W5.heap.size W5 W → W.cell? ⟨w5.heap.size, 0, none⟩ = some (.slice ob s1.out.length oc3) ∧ W.cell? ⟨w5.heap.size, 1, none⟩ = some (.slice vb Y2.length vc3) ∧ W.cell? ⟨w5.heap.size, 2, none⟩ = some (.int .i64 d1) ∧ W.cell? ⟨w5.heap.size, 3, none⟩ = some (.int .i64 c1)) := Lib.hid (fun W hb => by
    have h2 := blk ((hb.block _ (blk P55.out).2.2).trans P55.out)
    exact ⟨h2.1 0 _ rfl, h2.1 1 _ rfl, h2.1 2 _ rfl, h2.1 3 _ rfl⟩)
  have HBW : Hid (Below w.heap.size w W5) := Lib.hid ((HB1.out.trans (HA3.out.mono hs1)).trans (HA5.out.mono (by omega)))
  have FP5 := Lib.hid (fun (W : World) (hb : Below W5.heap.size W5 W) => i_foldProgram ya yc Y W hly HCY.out (RY.out.below (HA5.out.trans (hb.mono HA5.out.size))) HSY.out (HSH.out W (HBW.out.trans (hb.mono HBW.out.size))))
  rw [(pokB_iff _).2 HOY.out, HYP.out, HAG.out] at FP5
  have RYW := Lib.hid (fun (W : World) (hb : Below W5.heap.size W5 W) => RY.out.below (HA5.out.trans (hb.mono HA5.out.size)))
  have SX := Lib.hid (fun (W : World) (hb : Below W5.heap.size W5 W) => i_saved (some ⟨g, 0, none⟩) cp X W hlx HCP.out (R1.out.below (HA3.out.trans ((HA5.out.trans (hb.mono HA5.out.size)).mono z3))) HSM.out (HSH.out W (HBW.out.trans (hb.mono HBW.out.size))))
  have SY := Lib.hid (fun (W : World) (hb : Below W5.heap.size W5 W) => i_saved ya yc Y W hly HCY.out (RY.out.below (HA5.out.trans (hb.mono HA5.out.size))) HSY.out (HSH.out W (HBW.out.trans (hb.mono HBW.out.size))))
  rw [HYP.out, HSF.out] at SY
  obtain ⟨sx, hsx⟩ : ∃ x, savZ (plL X) = x := ⟨_, rfl⟩
  rw [hsx] at SX HSP
  obtain ⟨p0a, p0b, p0c, p0d⟩ := KA.out W5 (Below.refl _ _)
  obtain ⟨q0a, q0b, q0c, q0d⟩ := KB.out W5 (Below.refl _ _)
  have hd0 : decide (0 ≤ sx) = true := decide_eq_true HSP.out
  clear b5 ba bb hR2 hW5 hsx hm1 hm2 hY1
  go_upto_region 9 with fail
  rw [HW5.out]
  go_wp2_with fail
  refine (SO.out _ (Below.refl _ _)).mono ?_
  rintro e w6 ⟨rfl, b6⟩
  have HD6 := Lib.hid b6
  have z6 := b6.size
  obtain ⟨p6a, p6b, p6c, p6d⟩ := KA.out w6 b6
  obtain ⟨q6a, q6b, q6c, q6d⟩ := KB.out w6 b6
  clear b6 p0a p0b p0c p0d q0a q0b q0c q0d
  go_wp2_with fail
  refine (SV.out _ HD6.out).mono ?_
  rintro e w7 ⟨rfl, b7⟩
  have HD7 : Hid (Below W5.heap.size W5 w7) := Lib.hid (HD6.out.trans (b7.mono z6))
  have z7 := HD7.out.size
  obtain ⟨p7a, p7b, p7c, p7d⟩ := KA.out w7 HD7.out
  obtain ⟨q7a, q7b, q7c, q7d⟩ := KB.out w7 HD7.out
  clear b7 p6a p6b p6c p6d q6a q6b q6c q6d
  go_wp2_with fail
  refine (FP5.out _ HD7.out).mono ?_
  rintro e w8 ⟨v8, Z, rfl, O8, M8, zp, b8⟩
  obtain ⟨za, zc, rfl⟩ := owns3_shape O8
  have zp' : plL Z = plL Y := by rw [HYP.out]; exact zp
  have hlz : Z.length = Y.length := by have := congrArg List.length zp'; simpa [plL] using this
  have HD8 : Hid (Below W5.heap.size W5 w8) := Lib.hid (HD7.out.trans (b8.mono z7))
  have z8 := HD8.out.size
  have SL := Lib.hid (l_sameLines za ya zc yc Z Y w8 (readL_of O8 M8.all) (RYW.out w8 HD8.out) zp' (by omega) (szal_ok (by rw [zp']; exact HOY.out)))
  clear b8 O8 M8 zp zp' hlz p7a p7b p7c p7d q7a q7b q7c q7d
  go_wp2_with fail
  refine SL.out.mono ?_
  rintro e w9 ⟨rfl, b9⟩
  have HD9 : Hid (Below W5.heap.size W5 w9) := Lib.hid (HD8.out.trans (b9.mono z8))
  have z9 := HD9.out.size
  clear b9
  go_wp2_with fail
  refine (SX.out _ HD9.out).mono ?_
  rintro e w10 ⟨rfl, b10⟩
  have HD10 : Hid (Below W5.heap.size W5 w10) := Lib.hid (HD9.out.trans (b10.mono z9))
  have z10 := HD10.out.size
  clear b10
  go_wp2_with fail
  refine (SY.out _ HD10.out).mono ?_
  rintro e w11 ⟨rfl, b11⟩
  have HD11 : Hid (Below W5.heap.size W5 w11) := Lib.hid (HD10.out.trans (b11.mono z10))
  have HX : Hid (Below w.heap.size w w11) := Lib.hid (HBW.out.trans (HD11.out.mono HBW.out.size))
  clear b11
  go_wp2
  go_ret
  exact ⟨rfl, HX.out⟩
end Go.Proofs.YtcnnfhcpkbjolaaDoor.fnFolded
