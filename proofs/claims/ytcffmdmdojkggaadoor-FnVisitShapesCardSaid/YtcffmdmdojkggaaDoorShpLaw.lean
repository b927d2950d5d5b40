/- The walk of the law on the shapes of visits: each begins in main and goes from call to call. -/
import Derived.Test.YtcffmdmdojkggaaDoorIrun
import Derived.Test.YtcffmdmdojkggaaDoorSrun
import Derived.Test.YtcffmdmdojkggaaDoorSameRuns
import Derived.Test.YtcffmdmdojkggaaDoorFnOf
import Derived.Test.YtcffmdmdojkggaaDoorDrawProgram
import Derived.Test.YtcffmdmdojkggaaDoorDrawnOk
import Derived.Test.YtcffmdmdojkggaaDoorBig
import Derived.Test.YtcffmdmdojkggaaDoorPlainR
namespace Go.Proofs.YtcffmdmdojkggaaDoor.fnVisitShapes
open Go.RowKit Go.Lib

theorem goes_small {p : List PLine} (ho : OkI p) {lim : Nat} (_hl : lim ≤ 1000) {r : RunRes} {s' : RunS} (h : GoesTo p lim r s') : s'.vis.length ≤ lim ∧ s'.out.length ≤ lim ∧ (∀ v ∈ s'.vis, v.length ≤ 7) ∧ codR r ≠ 3 := by
  obtain ⟨N, hN⟩ := h
  have h1 : s'.vis.length ≤ lim := (runF_grown _ _ _ _ _ _ _ _ hN).2.2.1 (Nat.zero_le _)
  have h2 := run_outs _ _ _ _ _ _ _ _ _ hN
  have h3 := run_shapes p appZ arN lim ho N (.lines [] 0 (locZ p ((0 : Nat) : Int)) (callVars p 0 []) (0 + 1)) ⟨[], []⟩ ⟨Chain.main, Nat.zero_le _, by omega⟩ (fun v hv => by cases hv) _ hN
  have h4 := run_fits _ _ _ _ _ _ _ _ _ hN
  unfold Outs at h2
  simp only [List.length_nil] at h2
  refine ⟨h1, by omega, fun v hv => ?_, ?_⟩
  · obtain ⟨c, f, k, e, _, hc, _⟩ := h3 v hv
    rw [e, List.length_append]
    simp
    omega
  · cases r with
    | ret v => exact (by decide : (0 : Int) ≠ 3)
    | stop q => have := h4.stops; exact (by omega : q ≠ 3)
    | val v i => exact h4.elim
    | vals ws i => exact h4.elim
theorem goes_shapes {p : List PLine} (ho : OkI p) {lim : Nat} {r : RunRes} {s' : RunS} (h : GoesTo p lim r s') : ∀ v ∈ s'.vis, 0 < v.length ∧ v.length ≤ 7 ∧ (∀ i, ∀ hi : i + 1 < v.length, CallsTo p v[i] v[i + 1]) ∧ ∃ m : Nat, v[0]? = some (m : Int) ∧ fnN p m = mainT := by
  obtain ⟨N, hN⟩ := h
  have h3 := run_shapes p appZ arN lim ho N (.lines [] 0 (locZ p ((0 : Nat) : Int)) (callVars p 0 []) (0 + 1)) ⟨[], []⟩ ⟨Chain.main, Nat.zero_le _, by omega⟩ (fun v hv => by cases hv) _ hN
  exact fun v hv => shape_steps p ho v (h3 v hv)
theorem toList_beq (a b : ByteArray) : (a.toList == b.toList) = decide (a = b) := by
  by_cases h : a = b
  · subst h; simp
  · have hne : a.toList ≠ b.toList := fun e => h (by rw [ByteArray.toList_eq, ByteArray.toList_eq] at e; exact ByteArray.ext (Array.ext' e))
    rw [decide_eq_false h, beq_eq_false_iff_ne]
    exact hne
/-- Has one of the first tokens a call of that name? -/
def foundB (E : List TokL) (nm : ByteArray) (n : Nat) : Bool := (E.take n).any (fun t => t.kind == 7 && decide (t.name = nm))
theorem found_zero (E : List TokL) (nm : ByteArray) : foundB E nm 0 = false := rfl
theorem found_next (E : List TokL) (nm : ByteArray) (n : Nat) (h : n < E.length) : foundB E nm (n + 1) = (foundB E nm n || (E[n].kind == 7 && decide (E[n].name = nm))) := by
  unfold foundB
  rw [List.take_succ_eq_append_getElem h, List.any_append]
  simp
theorem found_all (E : List TokL) (nm : ByteArray) (h : ∃ t ∈ E, t.kind = 7 ∧ t.name = nm) : foundB E nm E.length = true := by
  obtain ⟨t, ht, h7, hn⟩ := h
  unfold foundB
  rw [List.take_length, List.any_eq_true]
  exact ⟨t, ht, by rw [h7]; simp [hn]⟩
theorem run_field (a b c d : Value) (W : World) : (Instr.field 30 (.agg #[a, b, c, d]) 1).run Tryd.prog W = .ok b W := by kernel_rfl

set_option maxRecDepth 100000 in
set_option maxHeartbeats 8000000 in
theorem walk (a0 : Option Addr) (len0 cap0 : Nat) (z0 : List Int) (w : World) (w0 : IsRow .u8 w a0 len0 cap0 z0) (hL : laidMet Tryd.prog Rows.fnVisitShapesRow.laid w) :
    Calls Tryd.prog 4 #[.slice a0 len0 cap0] w fun e w' => e = .returned (.bool true) ∧ Below w.heap.size w w' := by
  have HC := Lib.hid w0
  have HSH := Lib.hid (fun (W : World) (hb : Below w.heap.size w W) => (shapes_head hL).on hb)
  have hlen : len0 ≤ 9223372036854775807 := by
    rcases w0 with ⟨_, rfl, _, _⟩ | ⟨x, _, h1, h2, _⟩
    · omega
    · unfold maxLen at h2; omega
  clear hL
  by_cases hb : 1048576 < len0
  · clear w0
    go_enter Tryd.func4, Tryd.ntmps4
    go_wp2_with fail
    refine (big_yes a0 len0 cap0 _ hb hlen).mono ?_
    rintro e w' ⟨rfl, rfl⟩
    go_wp2
    go_ret
    exact ⟨rfl, Below.refl _ _⟩
  have hb' : len0 ≤ 1048576 := by omega
  clear w0
  go_enter Tryd.func4, Tryd.ntmps4
  go_wp2_with fail
  refine (big_no a0 len0 cap0 _ hb').mono ?_
  rintro e w' ⟨rfl, rfl⟩
  go_wp2_with fail
  refine (d_program a0 len0 cap0 z0 _ HC.out hb').mono ?_
  rintro e w1 ⟨v, X, rfl, O1, hne, A1, ok1, x0, x1, b1⟩
  obtain ⟨g, cp, rfl⟩ := own_formT O1 x0
  have hcap := own_cap4 O1
  have HCP := Lib.hid hcap
  have R1 := Lib.hid (readL_of O1 A1)
  have HB1 := Lib.hid b1
  have hs1 := b1.size
  have HSM : Hid (SzAl X) := Lib.hid (fun x hx => line_small _ (ok1 x hx).line)
  clear O1 A1 ok1 b1 hne hcap
  have hlx : X.length ≤ 1048576 := by omega
  obtain ⟨b, hb2⟩ : ∃ b, pokB (plL X) = b := ⟨_, rfl⟩
  have SPO := Lib.hid (fun (W : World) (hb : Below w1.heap.size w1 W) => s_progOkB (some ⟨g, 0, none⟩) cp X W hlx (R1.out.below hb) HSM.out)
  rw [hb2] at SPO
  cases b
  · have hno : ¬ OkI (plL X) := fun h => by rw [(pokB_iff _).2 h] at hb2; cases hb2
    have II := Lib.hid (i_interpret_bad (some ⟨g, 0, none⟩) cp X 60 w1 hlx HCP.out R1.out HSM.out (HSH.out w1 HB1.out) (fun h => hno h.1))
    have SI := Lib.hid (fun (W : World) (hb : Below w1.heap.size w1 W) => s_interpret_bad (some ⟨g, 0, none⟩) cp X 60 W hlx (R1.out.below hb) HSM.out (fun h => hno h.1))
    clear hno hb2
    go_wp2_with fail
    refine II.out.mono ?_
    rintro e w2 ⟨ov2, vv2, Y2, rfl, hR2, b2⟩
    have hY2 : Y2 = [] := by
      have := hR2.len
      exact List.eq_nil_of_length_eq_zero this
    subst hY2
    obtain ⟨oa, oc, rfl⟩ := owns_shape hR2.out
    obtain ⟨va, vc, rfl⟩ := owns_shape hR2.vis
    have HA2 := Lib.hid (b2.alloc b2.size (.cells #[.slice oa 0 oc, .slice va 0 vc, .int .i64 0, .int .i64 3] 30))
    have P2 := Lib.hid (heap_alloc_new w2 (.cells #[.slice oa 0 oc, .slice va 0 vc, .int .i64 0, .int .i64 3] 30))
    obtain ⟨W2, hW2⟩ : ∃ W, w2.alloc (.cells #[.slice oa 0 oc, .slice va 0 vc, .int .i64 0, .int .i64 3] 30) = W := ⟨_, rfl⟩
    have HW2 := Lib.hid hW2
    rw [hW2] at HA2 P2
    have SIq := Lib.hid (fun (W : World) (hb : Below W2.heap.size W2 W) => SI.out W (HA2.out.trans (hb.mono HA2.out.size)))
    have HKP : Hid (∀ W, Below W2.heap.size W2 W → W.cell? ⟨w2.heap.size, 1, none⟩ = some (.slice va 0 vc) ∧ W.cell? ⟨w2.heap.size, 3, none⟩ = some (.int .i64 3)) := Lib.hid (fun W hb => by
      have h := blk ((hb.block _ (blk P2.out).2.2).trans P2.out)
      exact ⟨h.1 1 _ rfl, h.1 3 _ rfl⟩)
    have hfl := run_field
    clear b2 hR2 hW2
    go_upto_region 5 with fail
    rw [HW2.out]
    go_region_held3 (fun w' => w'.cell? ⟨w2.heap.size, 1, none⟩ = some (.slice va 0 vc) ∧ w'.cell? ⟨w2.heap.size, 3, none⟩ = some (.int .i64 3)) (first | exact HKP.out _ (Below.refl W2.heap.size W2).drew | exact HKP.out _ (undrew b5)) (first
      | (go_at_call 10; refine (SIq.out _ ?_).mono ?_; exact (Below.refl W2.heap.size W2).drew; rintro e w5 ⟨ov5, vv5, Y5, rfl, hR5, b5⟩; have hY5 : Y5 = [] := (List.eq_nil_of_length_eq_zero hR5.len); subst hY5; obtain ⟨o5, f5, rfl⟩ := owns_shape hR5.out; obtain ⟨v5, g5, rfl⟩ := owns_shape hR5.vis))
    have HB5 : Hid (Below w.heap.size w w5) := Lib.hid ((HB1.out.trans (HA2.out.mono hs1)).trans ((undrew b5).mono (by have := HA2.out.size; omega)))
    have KK := HKP.out _ (undrew b5)
    obtain ⟨k1, k3⟩ := KK
    clear hfl b5 hR5
    go_wp2_with fail
    go_loopw [5, 6, 7, 8, 9, 10] (fun i _ _ _ _ _ wr => i = .int .i64 0 ∧ wr = w5) (fun _ _ _ _ _ _ _ => 0)
    case atStart => exact ⟨rfl, rfl⟩
    case round =>
      obtain ⟨rfl, rfl⟩ := hrel
      go_wp2
      go_ret
      exact ⟨rfl, HB5.out⟩
  have ho : OkI (plL X) := (pokB_iff _).1 hb2
  obtain ⟨r1, s1, hg1⟩ := goes ho 60
  have HSMR := Lib.hid (goes_small ho (by omega) hg1)
  have HSHP := Lib.hid (goes_shapes ho hg1)
  have II := Lib.hid (i_interpret (some ⟨g, 0, none⟩) cp X 60 w1 hlx HCP.out R1.out HSM.out (HSH.out w1 HB1.out) ho (by omega) (by omega) r1 s1 hg1)
  have SI := Lib.hid (fun (W : World) (hb : Below w1.heap.size w1 W) => s_interpret (some ⟨g, 0, none⟩) cp X 60 W hlx (R1.out.below hb) HSM.out ho (by omega) (by omega) r1 s1 hg1)
  have hc3 : ((codR r1) != 3) = true := by rw [bne_iff_ne]; exact HSMR.out.2.2.2
  generalize codR r1 = c1 at *
  generalize valR r1 = d1 at *
  clear hg1 ho hb2 SPO
  go_wp2_with fail
  refine II.out.mono ?_
  rintro e w2 ⟨ov2, vv2, Y, rfl, hR2, b2⟩
  obtain ⟨oa, oc, rfl⟩ := owns_shape hR2.out
  obtain ⟨va, vc, rfl⟩ := owns_shape hR2.vis
  have ba : Below w2.heap.size w2 (w2.alloc (.cells #[.slice oa s1.out.length oc, .slice va Y.length vc, .int .i64 d1, .int .i64 c1] 30)) := (Below.refl _ _).alloc (Nat.le_refl _) _
  have HA2 := Lib.hid (b2.trans (ba.mono b2.size))
  have P2 := Lib.hid (heap_alloc_new w2 (.cells #[.slice oa s1.out.length oc, .slice va Y.length vc, .int .i64 d1, .int .i64 c1] 30))
  have RR := Lib.hid (hR2.below ba)
  obtain ⟨W2, hW2⟩ : ∃ W, w2.alloc (.cells #[.slice oa s1.out.length oc, .slice va Y.length vc, .int .i64 d1, .int .i64 c1] 30) = W := ⟨_, rfl⟩
  have HW2 := Lib.hid hW2
  have HL1 : Hid (Y.length = s1.vis.length) := Lib.hid hR2.len
  rw [hW2] at HA2 P2 RR
  have SIq := Lib.hid (fun (W : World) (hb : Below W2.heap.size W2 W) => SI.out W (HA2.out.trans (hb.mono HA2.out.size)))
  have HKP : Hid (∀ W, Below W2.heap.size W2 W → W.cell? ⟨w2.heap.size, 1, none⟩ = some (.slice va Y.length vc)) := Lib.hid (fun W hb => (blk ((hb.block _ (blk P2.out).2.2).trans P2.out)).1 1 _ rfl)
  have hfl := run_field
  clear b2 ba hR2 hW2
  go_upto_region 5 with fail
  rw [HW2.out]
  go_region_held3 (fun w' => w'.cell? ⟨w2.heap.size, 1, none⟩ = some (.slice va Y.length vc)) (first | exact HKP.out _ (Below.refl W2.heap.size W2).drew | exact HKP.out _ (undrew b5)) (first
    | (go_at_call 10; refine (SIq.out _ ?_).mono ?_; exact (Below.refl W2.heap.size W2).drew; rintro e w5 ⟨ov5, vv5, Y5, rfl, hR5, b5⟩; obtain ⟨o5, f5, rfl⟩ := owns_shape hR5.out; obtain ⟨v5, g5, rfl⟩ := owns_shape hR5.vis))
  have h25 : ((Y.length : Int) != (Y5.length : Int)) = false := by rw [show Y5.length = Y.length from by rw [hR5.len, HL1.out]]; simp
  have HB5 : Hid (Below W2.heap.size W2 w5) := Lib.hid (undrew b5)
  have HBw : Hid (Below w.heap.size w w5) := Lib.hid ((HB1.out.trans (HA2.out.mono hs1)).trans (HB5.out.mono (by have := HA2.out.size; omega)))
  have HR5 : Hid (ReadL 9 41 w5 (some ⟨g, 0, none⟩) X) := Lib.hid ((R1.out.below HA2.out).below (HB5.out))
  have P25 := Lib.hid ((HB5.out.block _ (blk P2.out).2.2).trans P2.out)
  have RR5 := Lib.hid (RR.out.below HB5.out)
  have HRV := Lib.hid (readV_of RR5.out.vis RR5.out.made)
  have HIN : Hid (∀ x ∈ Y, 0 < x.xs.length ∧ x.xs.length ≤ 7 ∧ (∀ i, ∀ hi : i + 1 < x.xs.length, CallsTo (plL X) x.xs[i] x.xs[i + 1]) ∧ ∃ m : Nat, x.xs[0]? = some (m : Int) ∧ fnN (plL X) m = mainT) := Lib.hid (fun x hx => HSHP.out x.xs (by rw [← RR5.out.xs]; exact List.mem_map_of_mem hx))
  have hYL : Y.length ≤ 60 := by rw [HL1.out]; exact HSMR.out.1
  clear b5 hR5 hfl
  rw [h25]
  clear h25
  go_wp2_with fail
  go_loopw [5, 6, 7, 8, 9, 10] (fun i _ _ _ _ _ wr => ∃ q : Nat, q ≤ Y.length ∧ i = .int .i64 (q : Int) ∧ Hid (Below w5.heap.size w5 wr)) (fun i _ _ _ _ _ _ => Y.length - (RowKit.intOf i).toNat)
  case atStart => exact ⟨0, Nat.zero_le _, rfl, Lib.hid (Below.refl _ _)⟩
  case round =>
    rename World => wr
    obtain ⟨q, hq, rfl, HBr⟩ := hrel
    have hcl := blk ((HBr.out.block _ (blk P25.out).2.2).trans P25.out)
    have x1 : wr.cell? ⟨w2.heap.size, 1, none⟩ = some (.slice va Y.length vc) := hcl.1 1 _ rfl
    have x3 : wr.cell? ⟨w2.heap.size, 3, none⟩ = some (.int .i64 c1) := hcl.1 3 _ rfl
    clear hcl
    by_cases hlt : q < Y.length
    · obtain ⟨gv, xa, xc, rfl, hgv, cv5, rv⟩ := HRV.out q hlt
      obtain ⟨xs, hxs⟩ : ∃ xs, Y[q].xs = xs := ⟨_, rfl⟩
      have hin : 0 < xs.length ∧ xs.length ≤ 7 ∧ (∀ i, ∀ hi : i + 1 < xs.length, CallsTo (plL X) xs[i] xs[i + 1]) ∧ ∃ m : Nat, xs[0]? = some (m : Int) ∧ fnN (plL X) m = mainT := by
        subst hxs
        exact HIN.out Y[q] (List.getElem_mem hlt)
      rw [hxs] at cv5 rv
      have cv := (HBr.out.cell (p := ⟨gv, q, none⟩) hgv).trans cv5
      clear hxs
      obtain ⟨hx0, hx7, hcalls, m, hm, hmn⟩ := hin
      obtain ⟨gx, rfl, hgx, cx5⟩ := rv 0 hx0
      have cx := (HBr.out.cell (p := ⟨gx, 0, none⟩) hgx).trans cx5
      have hx00 : xs[0] = (m : Int) := by rw [List.getElem?_eq_getElem hx0] at hm; exact Option.some.inj hm
      rw [hx00] at cx
      have FN := Lib.hid (s_fnOf (some ⟨g, 0, none⟩) cp X m wr hlx (HR5.out.below HBr.out))
      rw [hmn] at FN
      have HCL := Lib.hid hcalls
      have HRX := Lib.hid rv
      have HGX := Lib.hid hgx
      have k0 : (0 : Int) ≤ (q : Int) := by omega
      have k1 : (q : Int) < (Y.length : Int) := by omega
      have n0 : ((xs.length : Int) == 0) = false := by rw [beq_eq_false_iff_ne]; omega
      have n7 : decide ((7 : Int) < (xs.length : Int)) = false := decide_eq_false (by omega)
      have n7' : ¬ 7 < xs.length := by omega
      have n00 : (0 : Int) < (xs.length : Int) := by omega
      have hmt : mainT.toList = [109, 97, 105, 110] := by rw [ByteArray.toList_eq]; rfl
      clear hcalls hm hmn hx00 rv hgx hgv cv5 cx5
      go_wp2_with fail
      refine FN.out.mono ?_
      rintro e wf ⟨rfl, rfl⟩
      go_wp2_with fail
      go_loopw [7, 8, 9, 10] (fun jv _ _ _ wy => ∃ j : Nat, j < xs.length ∧ jv = .int .i64 (j : Int) ∧ Hid (Below w5.heap.size w5 wy)) (fun jv _ _ _ _ => xs.length - (RowKit.intOf jv).toNat)
      case atStart => exact ⟨0, hx0, rfl, HBr⟩
      case round =>
        rename World => wy
        obtain ⟨j, hj, rfl, HBy⟩ := hrel
        by_cases hj1 : j + 1 < xs.length
        · obtain ⟨i, kk, hi, hk, hil, ht⟩ := HCL.out j hj1
          have hilx : i < X.length := by rw [plL_length] at hil; exact hil
          rw [pl_at X i hilx] at ht
          have HFO : Hid (foundB X[i].expr (fnN (plL X) kk) X[i].expr.length = true) := Lib.hid (found_all _ _ ht)
          obtain ⟨NM, hNM⟩ : ∃ NM, fnN (plL X) kk = NM := ⟨_, rfl⟩
          have FN2 := Lib.hid (fun W (hb : Below w5.heap.size w5 W) => s_fnOf (some ⟨g, 0, none⟩) cp X kk W hlx (HR5.out.below hb))
          rw [hNM] at HFO FN2
          obtain ⟨g', hge, hgl, ⟨_, _, _, c3⟩, hmb⟩ := HR5.out i hilx
          injection hge with hge
          injection hge with hge
          subst hge
          obtain ⟨_, xe, _, ce, _, ee, _, hTe, _, _⟩ := inMem_shape hmb
          rw [ee] at c3
          obtain ⟨E, hE⟩ : ∃ E, X[i].expr = E := ⟨_, rfl⟩
          rw [hE] at c3 hTe HFO
          obtain ⟨gx1, he1, _, cj⟩ := HRX.out j hj
          injection he1 with he1
          injection he1 with he1
          subst he1
          obtain ⟨gx2, he2, _, cj1⟩ := HRX.out (j + 1) hj1
          injection he2 with he2
          injection he2 with he2
          subst he2
          rw [hi] at cj
          rw [hk] at cj1
          have HTE := Lib.hid hTe
          have HKK : Hid (∀ W, Below w5.heap.size w5 W → W.cell? ⟨gx, j, none⟩ = some (.int .i64 (i : Int)) ∧ W.cell? ⟨gx, j + 1, none⟩ = some (.int .i64 (kk : Int)) ∧ W.cell? ⟨g, i * 4 + 3, none⟩ = some (.slice xe E.length ce)) := Lib.hid (by
            have a1 := cj
            have a2 := cj1
            have a3 := c3
            exact fun W hb => ⟨(hb.cell (p := ⟨gx, j, none⟩) HGX.out).trans a1, (hb.cell (p := ⟨gx, j + 1, none⟩) HGX.out).trans a2, (hb.cell (p := ⟨g, i * 4 + 3, none⟩) hgl).trans a3⟩)
          obtain ⟨u1, u2, u3⟩ := HKK.out _ HBy.out
          have hEL : E.length ≤ 1048576 := by rw [← hE]; exact (HSM.out _ (List.getElem_mem hilx)).2.2.2.1
          have j0 : (0 : Int) ≤ (j : Int) := by omega
          have j1 : (j : Int) < (xs.length : Int) := by omega
          have j2 : (0 : Int) ≤ (j : Int) + 1 := by omega
          have j3 : (j : Int) + 1 < (xs.length : Int) := by omega
          have i0 : (0 : Int) ≤ (i : Int) := by omega
          have i1 : (i : Int) < (X.length : Int) := by omega
          have i2 : decide ((i : Int) < 0) = false := decide_eq_false (by omega)
          have i3 : decide ((X.length : Int) ≤ (i : Int)) = false := decide_eq_false (by omega)
          have i3' : ¬ X.length ≤ i := by omega
          clear ht hNM hTe cj cj1 c3 hmb ee hE hi hk hil
          go_wp2_with fail
          go_loopw [8, 9, 10] (fun fv nv _ wz => ∃ n : Nat, n ≤ E.length ∧ nv = .int .i64 (n : Int) ∧ fv = .bool (foundB E NM n) ∧ Hid (Below w5.heap.size w5 wz)) (fun _ nv _ _ => E.length - (RowKit.intOf nv).toNat)
          case atStart => exact ⟨0, Nat.zero_le _, rfl, rfl, HBy⟩
          case round =>
            rename World => wz
            obtain ⟨n, hn, rfl, rfl, HBz⟩ := hrel
            obtain ⟨t1, t2, t3⟩ := HKK.out _ HBz.out
            by_cases hlt2 : n < E.length
            · have HNX := Lib.hid (found_next E NM n hlt2)
              obtain ⟨ge, rfl, hgel, e0, e1, e2⟩ := HTE.out n hlt2
              have f0 := (HBz.out.cell (p := ⟨ge, n * 3, none⟩) hgel).trans e0
              have f1 := (HBz.out.cell (p := ⟨ge, n * 3 + 1, none⟩) hgel).trans e1
              have f2 := (HBz.out.cell (p := ⟨ge, n * 3 + 2, none⟩) hgel).trans e2
              obtain ⟨t, ht⟩ : ∃ t, E[n] = t := ⟨_, rfl⟩
              rw [ht] at f0 f1 f2 HNX
              obtain ⟨fb, hfb⟩ : ∃ fb, foundB E NM n = fb := ⟨_, rfl⟩
              rw [hfb] at HNX
              rw [hfb]
              obtain ⟨tk, tn, tm⟩ := t
              dsimp only at f0 f1 f2 HNX
              have m0 : (0 : Int) ≤ (n : Int) := by omega
              have m1 : (n : Int) < (E.length : Int) := by omega
              have HBa : Hid (Below w5.heap.size w5 (wz.alloc (.cells #[.int .i64 tk, .int .i64 tn, .string tm] 41))) := Lib.hid (HBz.out.alloc HBz.out.size _)
              have XA := Lib.hid (heap_alloc_new wz (.cells #[.int .i64 tk, .int .i64 tn, .string tm] 41))
              have KA := Lib.hid (HKK.out _ HBa.out)
              clear e0 e1 e2 ht hfb hgel
              cases fb
              · by_cases h7 : tk = 7
                · have b7 : (tk == 7) = true := by rw [beq_iff_eq]; exact h7
                  have HN7 : Hid (foundB E NM (n + 1) = decide (tm = NM)) := Lib.hid (by rw [HNX.out, b7]; simp)
                  clear h7
                  have z0 : (wz.alloc (.cells #[.int .i64 tk, .int .i64 tn, .string tm] 41)).cell? ⟨wz.heap.size, 0, none⟩ = some (.int .i64 tk) := (blk XA.out).1 0 _ rfl
                  have z2 : (wz.alloc (.cells #[.int .i64 tk, .int .i64 tn, .string tm] 41)).cell? ⟨wz.heap.size, 2, none⟩ = some (.string tm) := (blk XA.out).1 2 _ rfl
                  have zj := KA.out.2.1
                  have HZ := Lib.hid (And.intro z0 (And.intro z2 zj))
                  clear z0 z2 zj
                  go_upto_region 23 with fail
                  have hwj : IntKind.i64.wrap ((j : Int) + 1) = (j : Int) + 1 := IntWalk.i64_in _ (by omega)
                  go_region_held3 (fun w' => w'.cell? ⟨wz.heap.size, 0, none⟩ = some (.int .i64 tk) ∧ w'.cell? ⟨wz.heap.size, 2, none⟩ = some (.string tm) ∧ w'.cell? ⟨gx, j + 1, none⟩ = some (.int .i64 (kk : Int))) (first | exact HZ.out) (first
                    | (go_at_call 13; refine (FN2.out _ ?_).mono ?_; exact HBa.out.drew; rintro e w' ⟨rfl, rfl⟩))
                  rw [toList_beq, ← HN7.out]
                  go_wp2
                  go_roundw
                  case rel => exact ⟨n + 1, by omega, by go_num, rfl, Lib.hid HBa.out.drew⟩
                  case measure => simp [RowKit.intOf]; omega
                · have b7 : (tk == 7) = false := by rw [beq_eq_false_iff_ne]; exact h7
                  have HN7 : Hid (foundB E NM (n + 1) = false) := Lib.hid (by rw [HNX.out, b7]; simp)
                  clear h7
                  have z0 : (wz.alloc (.cells #[.int .i64 tk, .int .i64 tn, .string tm] 41)).cell? ⟨wz.heap.size, 0, none⟩ = some (.int .i64 tk) := (blk XA.out).1 0 _ rfl
                  go_upto_region 23 with fail
                  go_quiet (fail)
                  go_wp2
                  go_roundw
                  case rel => exact ⟨n + 1, by omega, by go_num, by rw [HN7.out], Lib.hid (below_drewN HBa.out nq)⟩
                  case measure => simp [RowKit.intOf]; omega
              · have HN7 : Hid (foundB E NM (n + 1) = true) := Lib.hid (by rw [HNX.out]; simp)
                go_upto_region 23 with fail
                go_quiet (fail)
                go_wp2
                go_roundw
                case rel => exact ⟨n + 1, by omega, by go_num, by rw [HN7.out], Lib.hid (below_drewN HBa.out nq)⟩
                case measure => simp [RowKit.intOf]; omega
            · have hne : n = E.length := by omega
              subst hne
              rw [HFO.out]
              clear hlt2
              go_wp2
              go_roundw
              case rel => exact ⟨j + 1, by omega, by go_num, HBz⟩
              case measure => simp [RowKit.intOf]; omega
        · have hje : ¬ (j : Int) + 1 < (xs.length : Int) := by omega
          clear hj1
          go_wp2
          go_roundw
          case rel => exact ⟨q + 1, by omega, by go_num, HBy⟩
          case measure => simp [RowKit.intOf]; omega
    · have hqe : q = Y.length := by omega
      clear hlt
      have HBX : Hid (Below w.heap.size w wr) := Lib.hid (HBw.out.trans (HBr.out.mono HBw.out.size))
      go_wp2
      go_ret
      exact ⟨rfl, HBX.out⟩
end Go.Proofs.YtcffmdmdojkggaaDoor.fnVisitShapes
