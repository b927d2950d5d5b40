/- The walk of the law on limits: a run with a lower limit is a beginning of a run with a higher one. -/
import Derived.Test.YtcffmdmdojkggaaDoorIrun
import Derived.Test.YtcffmdmdojkggaaDoorSrun
import Derived.Test.YtcffmdmdojkggaaDoorSameRuns
import Derived.Test.YtcffmdmdojkggaaDoorDrawProgram
import Derived.Test.YtcffmdmdojkggaaDoorDrawnOk
import Derived.Test.YtcffmdmdojkggaaDoorAt
import Derived.Test.YtcffmdmdojkggaaDoorBig
import Derived.Test.YtcffmdmdojkggaaDoorPlainR
namespace Go.Proofs.YtcffmdmdojkggaaDoor.fnLimits
open Go.RowKit Go.Lib

theorem goes_small {p : List PLine} (ho : OkI p) {lim : Nat} (hl : lim ≤ 1000) {r : RunRes} {s' : RunS} (h : GoesTo p lim r s') : s'.vis.length ≤ lim ∧ s'.out.length ≤ lim ∧ (∀ v ∈ s'.vis, v.length ≤ 7) ∧ codR r ≠ 3 := by
  obtain ⟨N, hN⟩ := h
  have h1 : s'.vis.length ≤ lim := (runF_grown _ _ _ _ _ _ _ _ hN).2.2.1 (Nat.zero_le _)
  have h2 := run_outs _ _ _ _ _ _ _ _ _ hN
  have h3 := run_shapes p appZ arN lim ho N (.lines [] 0 (locZ p ((0 : Nat) : Int)) (callVars p 0 []) (0 + 1)) ⟨[], []⟩ ⟨Chain.main, Nat.zero_le _, by omega⟩ (fun v hv => by cases hv) _ hN
  have h4 := run_fits _ _ _ _ _ _ _ _ _ hN
  unfold Outs at h2
  simp only [List.length_nil] at h2
  refine ⟨h1, by omega, fun v hv => ?_, ?_⟩
  · obtain ⟨c, f, k, e, _, hc, _⟩ := h3 v hv
    rw [e, List.length_append]
    simp
    omega
  · cases r with
    | ret v => exact (by decide : (0 : Int) ≠ 3)
    | stop q => have := h4.stops; exact (by omega : q ≠ 3)
    | val v i => exact h4.elim
    | vals ws i => exact h4.elim
theorem lim_both {p : List PLine} {l1 l2 : Nat} (hl : l1 ≤ l2) {r1 r2 : RunRes} {s1 s2 : RunS} (h1 : GoesTo p l1 r1 s1) (h2 : GoesTo p l2 r2 s2) : (r1 = r2 ∧ s1 = s2) ∨ (r1 = .stop 1 ∧ s1.vis.length = l1 ∧ s1.vis <+: s2.vis ∧ s1.out <+: s2.out) :=
  run_limits hl (Nat.zero_le _) h1 h2

theorem run_field (a b c d : Value) (W : World) : (Instr.field 30 (.agg #[a, b, c, d]) 1).run Tryd.prog W = .ok b W := by kernel_rfl

set_option maxRecDepth 100000 in
set_option maxHeartbeats 8000000 in
theorem walk (a0 : Option Addr) (len0 cap0 : Nat) (z0 : List Int) (w : World) (w0 : IsRow .u8 w a0 len0 cap0 z0) (hL : laidMet Tryd.prog Rows.fnLimitsRow.laid w) :
    Calls Tryd.prog 3 #[.slice a0 len0 cap0] w fun e w' => e = .returned (.bool true) ∧ Below w.heap.size w w' := by
  have HC := Lib.hid w0
  have HSH := Lib.hid (fun (W : World) (hb : Below w.heap.size w W) => (shapes_head hL).on hb)
  have hlen : len0 ≤ 9223372036854775807 := by
    rcases w0 with ⟨_, rfl, _, _⟩ | ⟨x, _, h1, h2, _⟩
    · omega
    · unfold maxLen at h2; omega
  clear hL
  by_cases hb : 1048576 < len0
  · clear w0
    go_enter Tryd.func3, Tryd.ntmps3
    go_wp2_with fail
    refine (big_yes a0 len0 cap0 _ hb hlen).mono ?_
    rintro e w' ⟨rfl, rfl⟩
    go_wp2
    go_ret
    exact ⟨rfl, Below.refl _ _⟩
  have hb' : len0 ≤ 1048576 := by omega
  have AT := Lib.hid (fun (W : World) (hbW : Below w.heap.size w W) => l_at a0 len0 cap0 z0 0 W (w0.below hbW (fun x hx hc => w0.lt x hx hc)) hb' (by omega) (by omega))
  clear w0
  go_enter Tryd.func3, Tryd.ntmps3
  go_wp2_with fail
  refine (big_no a0 len0 cap0 _ hb').mono ?_
  rintro e w' ⟨rfl, rfl⟩
  go_wp2_with fail
  refine (d_program a0 len0 cap0 z0 _ HC.out hb').mono ?_
  rintro e w1 ⟨v, X, rfl, O1, hne, A1, ok1, x0, x1, b1⟩
  obtain ⟨g, cp, rfl⟩ := own_formT O1 x0
  have hcap := own_cap4 O1
  have HCP := Lib.hid hcap
  have R1 := Lib.hid (readL_of O1 A1)
  have HB1 := Lib.hid b1
  have hs1 := b1.size
  have HSM : Hid (SzAl X) := Lib.hid (fun x hx => line_small _ (ok1 x hx).line)
  clear O1 A1 ok1 b1 hne hcap
  go_wp2_with fail
  refine (AT.out _ HB1.out).mono ?_
  rintro e w' ⟨v, v0, v1, rfl, rfl⟩
  have hrem : v.tmod 40 = v % 40 := Int.tmod_eq_emod_of_nonneg v0
  obtain ⟨ln, hln⟩ := Int.eq_ofNat_of_zero_le (Int.emod_nonneg v (show (40 : Int) ≠ 0 by decide))
  have hln40 : ln < 40 := by have := Int.emod_lt_of_pos v (show (0 : Int) < 40 by decide); omega
  rw [hln] at hrem
  have hlnv : v.tmod 40 = (ln : Int) := hrem
  have hlx : X.length ≤ 1048576 := by omega
  obtain ⟨b, hb2⟩ : ∃ b, pokB (plL X) = b := ⟨_, rfl⟩
  have SPO := Lib.hid (fun (W : World) (hb : Below w1.heap.size w1 W) => s_progOkB (some ⟨g, 0, none⟩) cp X W hlx (R1.out.below hb) HSM.out)
  rw [hb2] at SPO
  cases b
  · have hno : ¬ OkI (plL X) := fun h => by rw [(pokB_iff _).2 h] at hb2; cases hb2
    have II := Lib.hid (fun (W : World) (hb : Below w1.heap.size w1 W) (k : Int) => i_interpret_bad (some ⟨g, 0, none⟩) cp X k W hlx HCP.out (R1.out.below hb) HSM.out (HSH.out W (HB1.out.trans (hb.mono hs1))) (fun h => hno h.1))
    clear hno hb2 hrem hln
    go_wp2_with fail
    refine (II.out _ (Below.refl _ _) _).mono ?_
    rintro e w2 ⟨ov2, vv2, Y2, rfl, hR2, b2⟩
    obtain ⟨oa, oc, rfl⟩ := owns_shape hR2.out
    obtain ⟨va, vc, rfl⟩ := owns_shape hR2.vis
    have HA2 := Lib.hid (b2.alloc b2.size (.cells #[.slice oa 0 oc, .slice va Y2.length vc, .int .i64 0, .int .i64 3] 30))
    have P2 := Lib.hid (heap_alloc_new w2 (.cells #[.slice oa 0 oc, .slice va Y2.length vc, .int .i64 0, .int .i64 3] 30))
    clear b2 hR2
    go_wp2_with fail
    refine (II.out _ HA2.out _).mono ?_
    rintro e w3 ⟨ov3, vv3, Y3, rfl, hR3, b3⟩
    obtain ⟨ob, oc3, rfl⟩ := owns_shape hR3.out
    obtain ⟨vb, vc3, rfl⟩ := owns_shape hR3.vis
    have P3 := Lib.hid ((b3.block _ (by simp)).trans P2.out)
    have HB3 : Hid (Below w1.heap.size w1 (w3.alloc (.cells #[.slice ob 0 oc3, .slice vb Y3.length vc3, .int .i64 0, .int .i64 3] 30))) := Lib.hid ((HA2.out.trans (b3.mono HA2.out.size)).alloc (HA2.out.trans (b3.mono HA2.out.size)).size _)
    have c3 : (w3.alloc (.cells #[.slice ob 0 oc3, .slice vb Y3.length vc3, .int .i64 0, .int .i64 3] 30)).cell? ⟨w2.heap.size, 3, none⟩ = some (.int .i64 3) := (blk ((Below.heap_alloc w3 _ _ (blk P3.out).2.2).trans P3.out)).1 3 _ rfl
    have SP3 := Lib.hid (SPO.out _ HB3.out)
    clear b3 hR3
    go_wp2_with fail
    refine SP3.out.mono ?_
    rintro e w4 ⟨rfl, b4⟩
    have HB4 : Hid (Below w.heap.size w w4) := Lib.hid ((HB1.out.trans (HB3.out.mono hs1)).trans (b4.mono (by have := HB3.out.size; omega)))
    clear b4
    go_wp2
    go_ret
    exact ⟨rfl, HB4.out⟩
  have ho : OkI (plL X) := (pokB_iff _).1 hb2
  obtain ⟨r1, s1, hg1⟩ := goes ho ln
  obtain ⟨r2, s2, hg2⟩ := goes ho 60
  have hsm1 := goes_small ho (by omega) hg1
  have hsm2 := goes_small ho (by omega) hg2
  have hlim := lim_both (by omega : ln ≤ 60) hg1 hg2
  have II1 := Lib.hid (fun (W : World) (hb : Below w1.heap.size w1 W) => i_interpret (some ⟨g, 0, none⟩) cp X (ln : Int) W hlx HCP.out (R1.out.below hb) HSM.out (HSH.out W (HB1.out.trans (hb.mono hs1))) ho (by omega) (by omega) r1 s1 (by rw [Int.toNat_natCast]; exact hg1))
  have II2 := Lib.hid (fun (W : World) (hb : Below w1.heap.size w1 W) => i_interpret (some ⟨g, 0, none⟩) cp X 60 W hlx HCP.out (R1.out.below hb) HSM.out (HSH.out W (HB1.out.trans (hb.mono hs1))) ho (by omega) (by omega) r2 s2 hg2)
  have SI2 := Lib.hid (fun (W : World) (hb : Below w1.heap.size w1 W) => s_interpret (some ⟨g, 0, none⟩) cp X 60 W hlx (R1.out.below hb) HSM.out ho (by omega) (by omega) r2 s2 hg2)
  have HLIM : Hid ((codR r1 = codR r2 ∧ valR r1 = valR r2 ∧ s1 = s2) ∨ (codR r1 = 1 ∧ s1.vis.length = ln ∧ s1.vis <+: s2.vis ∧ s1.out <+: s2.out)) := Lib.hid (by
    rcases hlim with ⟨rfl, rfl⟩ | ⟨rfl, h⟩
    · exact .inl ⟨rfl, rfl, rfl⟩
    · exact .inr ⟨rfl, h⟩)
  have HPRE : Hid (s1.vis <+: s2.vis ∧ s1.out <+: s2.out) := Lib.hid (by
    rcases HLIM.out with ⟨_, _, rfl⟩ | ⟨_, _, h⟩
    · exact ⟨List.prefix_rfl, List.prefix_rfl⟩
    · exact h)
  have hc3 : ((codR r1) == 3) = false := by rw [beq_eq_false_iff_ne]; exact hsm1.2.2.2
  have HSM1 := Lib.hid hsm1
  have HSM2 := Lib.hid hsm2
  generalize codR r1 = c1 at *
  generalize valR r1 = d1 at *
  generalize codR r2 = c2 at *
  generalize valR r2 = d2 at *
  clear hlim hg1 hg2 ho hb2 hrem hln SPO hsm1 hsm2
  go_wp2_with fail
  refine (II1.out _ (Below.refl _ _)).mono ?_
  rintro e w2 ⟨ov1, vv1, Y1, rfl, hR1, b2⟩
  obtain ⟨oa, oc, rfl⟩ := owns_shape hR1.out
  obtain ⟨va, vc, rfl⟩ := owns_shape hR1.vis
  have ba : Below w2.heap.size w2 (w2.alloc (.cells #[.slice oa s1.out.length oc, .slice va Y1.length vc, .int .i64 d1, .int .i64 c1] 30)) := (Below.refl _ _).alloc (Nat.le_refl _) _
  have HA2 := Lib.hid (b2.trans (ba.mono b2.size))
  have P2 := Lib.hid (heap_alloc_new w2 (.cells #[.slice oa s1.out.length oc, .slice va Y1.length vc, .int .i64 d1, .int .i64 c1] 30))
  have RR1 := Lib.hid (hR1.below ba)
  clear b2 ba hR1
  go_wp2_with fail
  refine (II2.out _ HA2.out).mono ?_
  rintro e w3 ⟨ov2, vv2, Y2, rfl, hR2, b3⟩
  obtain ⟨ob, oc3, rfl⟩ := owns_shape hR2.out
  obtain ⟨vb, vc3, rfl⟩ := owns_shape hR2.vis
  have ba : Below w3.heap.size w3 (w3.alloc (.cells #[.slice ob s2.out.length oc3, .slice vb Y2.length vc3, .int .i64 d2, .int .i64 c2] 30)) := (Below.refl _ _).alloc (Nat.le_refl _) _
  have bb := b3.trans (ba.mono b3.size)
  have HA3 := Lib.hid (HA2.out.trans (bb.mono HA2.out.size))
  have P23 := Lib.hid ((bb.block _ (blk P2.out).2.2).trans P2.out)
  have P33 := Lib.hid (heap_alloc_new w3 (.cells #[.slice ob s2.out.length oc3, .slice vb Y2.length vc3, .int .i64 d2, .int .i64 c2] 30))
  have RR13 := Lib.hid (RR1.out.below bb)
  have RR23 := Lib.hid (hR2.below ba)
  obtain ⟨W3, hW3⟩ : ∃ W, w3.alloc (.cells #[.slice ob s2.out.length oc3, .slice vb Y2.length vc3, .int .i64 d2, .int .i64 c2] 30) = W := ⟨_, rfl⟩
  have HW3 := Lib.hid hW3
  have HL1 : Hid (Y1.length = s1.vis.length) := Lib.hid RR1.out.len
  have HL2 : Hid (Y2.length = s2.vis.length) := Lib.hid hR2.len
  have q3 := (blk P23.out).1 3 _ rfl
  have HQ3 : Hid ((w3.alloc (.cells #[.slice ob s2.out.length oc3, .slice vb Y2.length vc3, .int .i64 d2, .int .i64 c2] 30)).cell? ⟨w2.heap.size, 3, none⟩ = some (.int .i64 c1)) := Lib.hid q3
  have q3' := HQ3.out
  rw [hW3] at HA3 P23 P33 RR13 RR23
  have SIq := Lib.hid (fun (W : World) (hb : Below W3.heap.size W3 W) => SI2.out W (HA3.out.trans (hb.mono HA3.out.size)))
  clear b3 ba bb hR2 q3 hW3
  go_upto_region 9 with fail
  rw [HW3.out]
  have HKP : Hid (∀ W, Below W3.heap.size W3 W → W.cell? ⟨w3.heap.size, 1, none⟩ = some (.slice vb Y2.length vc3)) := Lib.hid (fun W hb => (blk ((hb.block _ (blk P33.out).2.2).trans P33.out)).1 1 _ rfl)
  clear q3'
  have hfl := run_field
  go_region_held3 (fun w' => w'.cell? ⟨w3.heap.size, 1, none⟩ = some (.slice vb Y2.length vc3)) (first | exact HKP.out _ (Below.refl W3.heap.size W3).drew | exact HKP.out _ (undrew b5)) (first
    | (go_at_call 10; refine (SIq.out _ ?_).mono ?_; exact (Below.refl W3.heap.size W3).drew; rintro e w5 ⟨ov5, vv5, Y5, rfl, hR5, b5⟩; obtain ⟨o5, f5, rfl⟩ := owns_shape hR5.out; obtain ⟨v5, g5, rfl⟩ := owns_shape hR5.vis))
  have h25 : ((Y2.length : Int) != (Y5.length : Int)) = false := by rw [show Y5.length = Y2.length from by rw [hR5.len, HL2.out]]; simp
  have HB5 : Hid (Below W3.heap.size W3 w5) := Lib.hid (undrew b5)
  have HBw : Hid (Below w.heap.size w w5) := Lib.hid ((HB1.out.trans (HA3.out.mono hs1)).trans (HB5.out.mono (by have := HA3.out.size; omega)))
  have P25 := Lib.hid ((HB5.out.block _ (blk P23.out).2.2).trans P23.out)
  have P35 := Lib.hid ((HB5.out.block _ (blk P33.out).2.2).trans P33.out)
  have RR15 := Lib.hid (RR13.out.below HB5.out)
  have RR25 := Lib.hid (RR23.out.below HB5.out)
  have hp1 := HPRE.out.1
  have hp2 := HPRE.out.2
  have hvl := hp1.length_le
  have hol := hp2.length_le
  have hY1 := HL1.out
  have hY2 := HL2.out
  have hcv := own_cap4 RR25.out.vis
  have hco := own_cap4 RR25.out.out
  have hm1 := HSM1.out.1
  have hm2 := HSM1.out.2.1
  have ht : Y2.take Y1.length = Y2.take Y1.length := rfl
  have HTL : Hid ((Y2.take Y1.length).length = Y1.length ∧ (s2.out.take s1.out.length).length = s1.out.length) := Lib.hid ⟨by rw [List.length_take]; omega, by rw [List.length_take]; omega⟩
  have SV := Lib.hid (fun (W : World) (hb : Below w5.heap.size w5 W) => l_sameVisits va vb vc vc3 Y1 (Y2.take Y1.length) W (by omega) (by
      rw [ivX_take, RR15.out.xs, RR25.out.xs, hY1]
      exact (List.prefix_iff_eq_take.1 hp1)) ((readV_of RR15.out.vis RR15.out.made).below hb) (((readV_of RR25.out.vis RR25.out.made).take Y1.length).below hb) (fun x hx => by
      have := HSM1.out.2.2.1 x.xs (by rw [← RR15.out.xs]; exact List.mem_map_of_mem hx)
      omega))
  have SO := Lib.hid (fun (W : World) (hb : Below w5.heap.size w5 W) => l_sameInts oa ob oc oc3 s1.out W ((readI_of RR15.out.out).below hb) (by
      have h := (ReadI.take (readI_of RR25.out.out) s1.out.length).below hb
      rw [← List.prefix_iff_eq_take.1 hp2] at h
      exact h) (by omega))
  rw [HTL.out.1] at SV
  have HKQ : Hid (∀ W, Below w5.heap.size w5 W → W.cell? ⟨w2.heap.size, 0, none⟩ = some (.slice oa s1.out.length oc) ∧ W.cell? ⟨w2.heap.size, 1, none⟩ = some (.slice va Y1.length vc) ∧ W.cell? ⟨w3.heap.size, 0, none⟩ = some (.slice ob s2.out.length oc3) ∧ W.cell? ⟨w3.heap.size, 1, none⟩ = some (.slice vb Y2.length vc3)) := Lib.hid (fun W hb => by
    have h2 := blk ((hb.block _ (blk P25.out).2.2).trans P25.out)
    have h3 := blk ((hb.block _ (blk P35.out).2.2).trans P35.out)
    exact ⟨h2.1 0 _ rfl, h2.1 1 _ rfl, h3.1 0 _ rfl, h3.1 1 _ rfl⟩)
  have g1 : decide ((ln : Int) < (Y1.length : Int)) = false := decide_eq_false (by omega)
  have g2 : decide ((Y2.length : Int) < (Y1.length : Int)) = false := decide_eq_false (by omega)
  have g3 : decide ((s2.out.length : Int) < (s1.out.length : Int)) = false := decide_eq_false (by omega)
  have g1' : decide (ln < Y1.length) = false := decide_eq_false (by omega)
  have g2' : decide (Y2.length < Y1.length) = false := decide_eq_false (by omega)
  have g3' : decide (s2.out.length < s1.out.length) = false := decide_eq_false (by omega)
  have k0 : (0 : Int) ≤ (Y1.length : Int) := by omega
  have k1 : (Y1.length : Int) ≤ (vc3 : Int) := by omega
  have k2 : (0 : Int) ≤ (s1.out.length : Int) := by omega
  have k3 : (s1.out.length : Int) ≤ (oc3 : Int) := by omega
  have HR5 := Lib.hid hR5
  clear b5 hR5 hp1 hp2 hfl ht hvl hol hcv hco hm1 hm2 hY1 hY2
  go_upto_region 11 with fail
  go_region_held3 (fun w' => w'.cell? ⟨w2.heap.size, 0, none⟩ = some (.slice oa s1.out.length oc) ∧ w'.cell? ⟨w2.heap.size, 1, none⟩ = some (.slice va Y1.length vc) ∧ w'.cell? ⟨w3.heap.size, 0, none⟩ = some (.slice ob s2.out.length oc3) ∧ w'.cell? ⟨w3.heap.size, 1, none⟩ = some (.slice vb Y2.length vc3)) (first | exact HKQ.out _ (Below.refl w5.heap.size w5).drew | exact HKQ.out _ (undrew b6) | exact HKQ.out _ ((undrew b6).trans (b7.mono (undrew b6).size))) (first
    | (go_at_call 11; refine (SV.out _ ?_).mono ?_; exact (Below.refl w5.heap.size w5).drew; rintro e w6 ⟨rfl, b6⟩)
    | (go_at_call 12; refine (SO.out _ ?_).mono ?_; exact (undrew b6); rintro e w7 ⟨rfl, b7⟩))
  have HB7 : Hid (Below w5.heap.size w5 w7) := Lib.hid ((undrew b6).trans (b7.mono (undrew b6).size))
  have HBX : Hid (Below w.heap.size w w7) := Lib.hid (HBw.out.trans (HB7.out.mono HBw.out.size))
  have p2 := blk ((HB7.out.block _ (blk P25.out).2.2).trans P25.out)
  have p3 := blk ((HB7.out.block _ (blk P35.out).2.2).trans P35.out)
  have x1 : w7.cell? ⟨w2.heap.size, 1, none⟩ = some (.slice va Y1.length vc) := p2.1 1 _ rfl
  have x2 : w7.cell? ⟨w2.heap.size, 2, none⟩ = some (.int .i64 d1) := p2.1 2 _ rfl
  have x3 : w7.cell? ⟨w2.heap.size, 3, none⟩ = some (.int .i64 c1) := p2.1 3 _ rfl
  have y1 : w7.cell? ⟨w3.heap.size, 1, none⟩ = some (.slice vb Y2.length vc3) := p3.1 1 _ rfl
  have y2 : w7.cell? ⟨w3.heap.size, 2, none⟩ = some (.int .i64 d2) := p3.1 2 _ rfl
  have y3 : w7.cell? ⟨w3.heap.size, 3, none⟩ = some (.int .i64 c2) := p3.1 3 _ rfl
  have hlim : (c1 = c2 ∧ d1 = d2 ∧ Y1.length = Y2.length) ∨ (c1 = 1 ∧ Y1.length = ln) := by
    have h1 := HL1.out
    have h2 := HL2.out
    rcases HLIM.out with ⟨a, b, c⟩ | ⟨a, b, _⟩
    · exact .inl ⟨a, b, by rw [h1, h2, c]⟩
    · exact .inr ⟨a, by omega⟩
  clear b6 b7 p2 p3 k0 k1 k2 k3 g1 g2 g3 g1' g2' g3'
  by_cases hq : c1 = 1 ∧ Y1.length = ln
  · have b1 : (c1 == 1) = true := by rw [beq_iff_eq]; exact hq.1
    have b2 : ((Y1.length : Int) == (ln : Int)) = true := by rw [beq_iff_eq, hq.2]
    clear hlim hq
    go_wp2
    go_ret
    exact ⟨rfl, HBX.out⟩
  have hA : c1 = c2 ∧ d1 = d2 ∧ Y1.length = Y2.length := hlim.resolve_right hq
  have b3 : (c1 == c2) = true := by rw [beq_iff_eq]; exact hA.1
  have b4 : (d1 == d2) = true := by rw [beq_iff_eq]; exact hA.2.1
  have b5 : ((Y1.length : Int) == (Y2.length : Int)) = true := by rw [beq_iff_eq, hA.2.2]
  by_cases h1 : c1 = 1
  · have b1 : (c1 == 1) = true := by rw [beq_iff_eq]; exact h1
    have b2 : ((Y1.length : Int) == (ln : Int)) = false := by rw [beq_eq_false_iff_ne]; intro h; exact hq ⟨h1, by omega⟩
    clear hlim hq hA h1
    go_wp2
    go_ret
    exact ⟨rfl, HBX.out⟩
  · have b1 : (c1 == 1) = false := by rw [beq_eq_false_iff_ne]; exact h1
    clear hlim hq hA h1
    go_wp2
    go_ret
    exact ⟨rfl, HBX.out⟩
end Go.Proofs.YtcffmdmdojkggaaDoor.fnLimits
