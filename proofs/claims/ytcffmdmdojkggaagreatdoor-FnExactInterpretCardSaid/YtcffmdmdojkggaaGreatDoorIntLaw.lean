/- The walk of the law on Interpret. -/
import Derived.Test.YtcffmdmdojkggaaGreatDoorIrun
import Derived.Test.YtcffmdmdojkggaaGreatDoorSrun
import Derived.Test.YtcffmdmdojkggaaGreatDoorMarkRun
import Derived.Test.YtcffmdmdojkggaaGreatDoorLineL
import Derived.Test.YtcffmdmdojkggaaGreatDoorLineE
import Derived.Test.YtcffmdmdojkggaaGreatDoorMarkL
import Derived.Test.YtcffmdmdojkggaaGreatDoorPlainR
namespace Go.Proofs.YtcffmdmdojkggaaGreatDoor.fnExactInterpret
open Go.RowKit Go.Lib

theorem small_pl {X : List LnL} {l : List ALine} (h : plL X = psA l) (hs : ∀ x ∈ l, SmallL x.p) : ∀ x ∈ X, SmallL x.p := by
  intro x hx
  have hm : x.p ∈ psA l := by rw [← h]; exact List.mem_map_of_mem hx
  obtain ⟨y, hy, e⟩ := List.mem_map.1 hm
  rw [← e]
  exact hs y hy
theorem len_pl {X : List LnL} {l : List ALine} (h : plL X = psA l) : X.length = l.length := by have := congrArg List.length h; simpa [plL, psA] using this
/-- How many arguments and tokens. -/
def sumP (ps : List PLine) : Nat := (ps.map fun p => p.args.length + p.expr.length).sum
theorem sumP_of (l : List ALine) : sumP (psA l) = sumA l := by
  unfold sumP psA sumA
  rw [List.map_map]
  rfl
theorem mkN_sum (X : List LnL) : ∀ m, mkN m X ≤ m + 2 * X.length + 3 * sumP (plL X) := by
  induction X with
  | nil => intro m; exact Nat.le_add_right _ _
  | cons x r ih =>
    intro m
    have h1 := ih (nxt m x)
    have h2 : mkN m (x :: r) = mkN (nxt m x) r := rfl
    have h3 : sumP (plL (x :: r)) = (x.args.length + x.expr.length) + sumP (plL r) := by simp [sumP, plL, LnL.p]
    rw [h2, h3, List.length_cons]
    unfold nxt at h1 ⊢
    omega
theorem own_cap {B T n s m c : Nat} {a : Option Addr} {w : World} {xs : List Value} (h : w.ownsRow B T s (.slice a m c) n xs) : n ≤ c := by
  rcases h.2 with ⟨_, h0⟩ | ⟨g, cap, cur, e, _, _, hn, _⟩
  · omega
  · injection e with _ _ e3
    omega
theorem psA_len (l : List ALine) : (psA l).length = l.length := by unfold psA; rw [List.length_map]
theorem goes_small {p : List PLine} (ho : OkI p) {lim : Nat} (hl : lim ≤ 1000) {r : RunRes} {s' : RunS} (h : GoesTo p lim r s') : SmallR s' := by
  obtain ⟨N, hN⟩ := h
  have h1 : s'.vis.length ≤ lim := (runF_grown _ _ _ _ _ _ _ _ hN).2.2.1 (Nat.zero_le _)
  have h2 := run_outs _ _ _ _ _ _ _ _ _ hN
  have h3 := run_shapes p appZ arN lim ho N (.lines [] 0 (locZ p ((0 : Nat) : Int)) (callVars p 0 []) (0 + 1)) ⟨[], []⟩ ⟨Chain.main, Nat.zero_le _, by omega⟩ (fun v hv => by cases hv) _ hN
  unfold Outs at h2
  simp only [List.length_nil] at h2
  refine ⟨by omega, by omega, fun v hv => ?_⟩
  obtain ⟨c, f, k, e, _, hc, _⟩ := h3 v hv
  rw [e, List.length_append]
  simp
  omega
theorem RunR.move {TI TII B : Nat} {w w' : World} {s : RunS} {ov vv : Value} {X : List IvL} (h : RunR TI TII B w s ov vv X) (hk : ∀ v ∈ RI ov vv X, ∀ g, v.ownBlock = some g → w'.heap[g]? = w.heap[g]?) : RunR TI TII B w' s ov vv X :=
  h.of_block (hk ov RI.o) (hk vv RI.v) (fun x hx => hk x.v (RI.x hx))
theorem RunR.lt {TI TII B : Nat} {w : World} {s : RunS} {ov vv : Value} {X : List IvL} (h : RunR TI TII B w s ov vv X) : ∀ v ∈ RI ov vv X, ∀ g, v.ownBlock = some g → B ≤ g ∧ g < w.heap.size := fun v hv g hg => by
  rcases mem_RI.1 hv with rfl | rfl | ⟨x, hx, rfl⟩
  · exact h.out.lt g hg
  · exact h.vis.lt g hg
  · exact (h.made.1 x hx).lt g hg

/-- Two runs handed back, each with the variable that holds it. -/
structure StI (TI TII TR B0 B1 r0 r1 : Nat) (s0 s1 : RunS) (ov0 vv0 ov1 vv1 : Value) (Y0 Y1 : List IvL) (val code : Int) (W : World) : Prop where
  R0 : RunR TI TII B0 W s0 ov0 vv0 Y0
  R1 : RunR TI TII B1 W s1 ov1 vv1 Y1
  P0 : W.heap[r0]? = some (.cells #[ov0, vv0, .int .i64 val, .int .i64 code] TR (0, 0))
  P1 : W.heap[r1]? = some (.cells #[ov1, vv1, .int .i64 val, .int .i64 code] TR (0, 0))
theorem StI.below {TI TII TR B0 B1 r0 r1 : Nat} {s0 s1 : RunS} {ov0 vv0 ov1 vv1 : Value} {Y0 Y1 : List IvL} {val code : Int} {W W' : World} (h : StI TI TII TR B0 B1 r0 r1 s0 s1 ov0 vv0 ov1 vv1 Y0 Y1 val code W) (hb : Below W.heap.size W W') : StI TI TII TR B0 B1 r0 r1 s0 s1 ov0 vv0 ov1 vv1 Y0 Y1 val code W' :=
  ⟨h.R0.below hb, h.R1.below hb, (hb.block _ (blk h.P0).2.2).trans h.P0, (hb.block _ (blk h.P1).2.2).trans h.P1⟩
/-- What both Interprets hand back of a program. -/
theorem both (l : List ALine) (hsm : ∀ x ∈ l, SmallL x.p) (lim : Int) : ∃ s' val code, SmallR s' ∧
    (∀ (X : List LnL) (a0 : Option Addr) (c0 : Nat) (W : World), plL X = psA l → X.length ≤ 1048576 → ReadL 9 81 W a0 X → Calls Tryz.prog 5 #[.slice a0 X.length c0, .int .i64 lim] W (RunGives 3 24 W s' val code)) ∧
    (∀ (X : List LnL) (a0 : Option Addr) (c0 : Nat) (W : World), plL X = psA l → X.length ≤ 1048576 → X.length ≤ c0 → ReadL 9 81 W a0 X → Shapes W → Calls Tryz.prog 7 #[.slice a0 X.length c0, .int .i64 lim] W (RunGives 3 24 W s' val code)) := by
  by_cases hg : OkI (psA l) ∧ 0 ≤ lim ∧ lim ≤ 1000
  · obtain ⟨ho, h0, h1⟩ := hg
    obtain ⟨r, s', hgo⟩ := goes ho lim.toNat
    refine ⟨s', valR r, codR r, goes_small ho (by omega) hgo, fun X a0 c0 W hp hl hr => ?_, fun X a0 c0 W hp hl hc hr hsh => ?_⟩
    · exact s_interpret a0 c0 X lim W hl hr (small_pl hp hsm) (by rw [hp]; exact ho) h0 h1 r s' (by rw [hp]; exact hgo)
    · exact i_interpret a0 c0 X lim W hl hc hr (small_pl hp hsm) hsh (by rw [hp]; exact ho) h0 h1 r s' (by rw [hp]; exact hgo)
  · refine ⟨⟨[], []⟩, 0, 3, ⟨Nat.zero_le _, Nat.zero_le _, fun v hv => by cases hv⟩, fun X a0 c0 W hp hl hr => ?_, fun X a0 c0 W hp hl hc hr hsh => ?_⟩
    · exact s_interpret_bad a0 c0 X lim W hl hr (small_pl hp hsm) (by rw [hp]; exact hg)
    · exact i_interpret_bad a0 c0 X lim W hl hc hr (small_pl hp hsm) hsh (by rw [hp]; exact hg)

set_option maxRecDepth 100000 in
set_option maxHeartbeats 8000000 in
theorem walk (a : Option Addr) (cap : Nat) (l : List ALine) (k : Int) (w : World) (hm : l.length ≤ maxLen) (ha : ArgLs w a l) (hk : (Lit.int .i64 k).wf = true) (hL : laidMet Tryz.prog Rows.fnExactInterpretRow.laid w) :
    Calls Tryz.prog 3 #[.slice a l.length cap, .int .i64 k] w fun e w' => e = .returned (.bool true) ∧ Below w.heap.size w w' := by
  have HSH := Lib.hid (shapes_head hL)
  have HA := Lib.hid ha
  clear ha hk hL
  go_enter Tryz.func3, Tryz.ntmps3
  go_wp2_with fail
  refine (l_szLineS a cap l 1048576 _ hm HA.out (by omega) (by omega)).mono ?_
  rintro e w1 ⟨r, rfl, b1, hr⟩
  have HB1 := Lib.hid b1
  have z1 := b1.size
  clear b1
  rcases hr with rfl | ⟨hr0, hle, hsm⟩
  · go_wp2
    go_ret
    exact ⟨rfl, HB1.out⟩
  have hl : l.length ≤ 1048576 := by omega
  have hd : decide (r < 0) = false := by simp; omega
  have HSM := Lib.hid hsm
  have HLE : Hid (l.length + sumA l ≤ 1048576) := Lib.hid (by omega)
  obtain ⟨s', val, code, hs', hSS, hSI⟩ := both l hsm k
  have SS := Lib.hid hSS
  have SI := Lib.hid hSI
  have HSR := Lib.hid hs'
  have TL := Lib.hid (fun (W : World) (hb : Below w.heap.size w W) => l_toLineS a cap l W hl (HA.out.below hb) HSM.out)
  clear hsm hs' hSS hSI
  have HPL : Hid (∀ X : List LnL, plL X = psA l → X.length = l.length) := Lib.hid (fun X h => len_pl h)
  obtain ⟨ps, hps⟩ : ∃ ps, psA l = ps := ⟨_, rfl⟩
  have HQ := Lib.hid hps
  rw [hps] at TL SS SI HPL
  clear hps
  go_wp2_with fail
  refine (TL.out _ HB1.out).mono ?_
  rintro e w2 ⟨v0, X0, rfl, OX0, MX0, p0, b2⟩
  obtain ⟨a0, c0, rfl⟩ := slice_shape OX0
  have S0 := Lib.hid (SS.out X0 a0 c0 w2 p0 (by rw [HPL.out _ p0]; exact hl) (readL_of OX0 MX0.all))
  have HB2 : Hid (Below w.heap.size w w2) := Lib.hid (HB1.out.trans (b2.mono z1))
  have z2 := HB2.out.size
  clear b2 OX0 MX0 p0
  go_wp2_with fail
  refine S0.out.mono ?_
  rintro e w3 ⟨ov0, vv0, Y0, rfl, hR0, b3⟩
  obtain ⟨o0, d0, rfl⟩ := owns_shape hR0.out
  obtain ⟨v0, f0, rfl⟩ := owns_shape hR0.vis
  have L0 := Lib.hid (RunR.lt hR0)
  have HB3 : Hid (Below w.heap.size w w3) := Lib.hid (HB2.out.trans (b3.mono z2))
  have y3 := b3.size
  have P0 := Lib.hid (heap_alloc_new w3 (.cells #[.slice o0 s'.out.length d0, .slice v0 Y0.length f0, .int .i64 val, .int .i64 code] 27))
  have hz3 : (w3.alloc (.cells #[.slice o0 s'.out.length d0, .slice v0 Y0.length f0, .int .i64 val, .int .i64 code] 27)).heap.size = w3.heap.size + 1 := by simp
  have R0 := Lib.hid (hR0.below ((Below.refl w3.heap.size w3).alloc (Nat.le_refl _) (.cells #[.slice o0 s'.out.length d0, .slice v0 Y0.length f0, .int .i64 val, .int .i64 code] 27)))
  have HB3' : Hid (Below w.heap.size w (w3.alloc (.cells #[.slice o0 s'.out.length d0, .slice v0 Y0.length f0, .int .i64 val, .int .i64 code] 27))) := Lib.hid (HB3.out.alloc HB3.out.size _)
  have z3 := HB3'.out.size
  clear b3 hR0 S0
  go_wp2_with fail
  refine (TL.out _ HB3'.out).mono ?_
  rintro e w4 ⟨v1, X1, rfl, OX1, MX1, p1, b4⟩
  rw [hz3] at OX1 MX1 b4 z3
  obtain ⟨a1, c1, rfl⟩ := slice_shape OX1
  have hX1 : X1.length ≤ 1048576 := by rw [HPL.out _ p1]; exact hl
  have HX1 : Hid (mkN 1 X1 ≤ 4000000) := Lib.hid (by
    have h1 := mkN_sum X1 1
    rw [p1, ← HQ.out, sumP_of] at h1
    have h2 := HLE.out
    have h3 := HPL.out _ p1
    omega)
  have HS1 := Lib.hid (small_pl (p1.trans HQ.out.symm) HSM.out)
  have P1 := Lib.hid p1
  have OX4 := Lib.hid OX1
  have MX4 := Lib.hid MX1
  have HB4 : Hid (Below w.heap.size w w4) := Lib.hid (HB3'.out.trans (b4.mono z3))
  have S1 := Lib.hid (SI.out X1 a1 c1 w4 p1 hX1 (own_cap OX1) (readL_of OX1 MX1.all) (HSH.out.on HB4.out))
  have hb4 : Below (w3.alloc (.cells #[.slice o0 s'.out.length d0, .slice v0 Y0.length f0, .int .i64 val, .int .i64 code] 27)).heap.size (w3.alloc (.cells #[.slice o0 s'.out.length d0, .slice v0 Y0.length f0, .int .i64 val, .int .i64 code] 27)) w4 := by rw [hz3]; exact b4
  have R04 := Lib.hid (R0.out.below hb4)
  have P04 := Lib.hid ((b4.block _ (by omega)).trans P0.out)
  have y4 := hb4.size
  rw [hz3] at y4
  have z4 := HB4.out.size
  clear b4 hb4 OX1 MX1 p1 hz3
  go_wp2_with fail
  refine S1.out.mono ?_
  rintro e w5 ⟨ov1, vv1, Y1, rfl, hR1, b5⟩
  obtain ⟨o1, d1, rfl⟩ := owns_shape hR1.out
  obtain ⟨v1, f1, rfl⟩ := owns_shape hR1.vis
  have L1 := Lib.hid (RunR.lt hR1)
  have hz5 : (w5.alloc (.cells #[.slice o1 s'.out.length d1, .slice v1 Y1.length f1, .int .i64 val, .int .i64 code] 27)).heap.size = w5.heap.size + 1 := by simp
  have P15 := Lib.hid (heap_alloc_new w5 (.cells #[.slice o1 s'.out.length d1, .slice v1 Y1.length f1, .int .i64 val, .int .i64 code] 27))
  have y5 := b5.size
  have HB5 : Hid (Below w.heap.size w w5) := Lib.hid (HB4.out.trans (b5.mono z4))
  have ba : Below w5.heap.size w5 (w5.alloc (.cells #[.slice o1 s'.out.length d1, .slice v1 Y1.length f1, .int .i64 val, .int .i64 code] 27)) := (Below.refl w5.heap.size w5).alloc (Nat.le_refl _) _
  have bb : Below w4.heap.size w4 (w5.alloc (.cells #[.slice o1 s'.out.length d1, .slice v1 Y1.length f1, .int .i64 val, .int .i64 code] 27)) := b5.trans (ba.mono y5)
  have HB5' : Hid (Below w.heap.size w (w5.alloc (.cells #[.slice o1 s'.out.length d1, .slice v1 Y1.length f1, .int .i64 val, .int .i64 code] 27))) := Lib.hid (HB4.out.trans (bb.mono z4))
  have T5 : Hid (StI 3 24 27 w2.heap.size w4.heap.size w3.heap.size w5.heap.size s' s' (.slice o0 s'.out.length d0) (.slice v0 Y0.length f0) (.slice o1 s'.out.length d1) (.slice v1 Y1.length f1) Y0 Y1 val code (w5.alloc (.cells #[.slice o1 s'.out.length d1, .slice v1 Y1.length f1, .int .i64 val, .int .i64 code] 27))) := Lib.hid ⟨R04.out.below bb, hR1.below ba, (bb.block _ (by omega)).trans P04.out, P15.out⟩
  have OX5 := Lib.hid (owns3_below OX4.out bb)
  have MX5 := Lib.hid (MX4.out.below bb)
  have EQ := Lib.hid (l_eqRun s' _ _ _ _ Y1 Y0 _ _ val code _ T5.out.R1 T5.out.R0 HSR.out)
  obtain ⟨g0, g1, g2, g3⟩ := cells4 T5.out.P0
  obtain ⟨q0, q1, q2, q3⟩ := cells4 T5.out.P1
  have z5 := HB5'.out.size
  rw [hz5] at z5
  clear b5 ba bb hR1 S1
  go_wp2_with fail
  refine EQ.out.mono ?_
  rintro e w6 ⟨rfl, b6⟩
  have T6 := Lib.hid (T5.out.below b6)
  have OX6 := Lib.hid (owns3_below OX5.out b6)
  have MX6 := Lib.hid (MX5.out.below b6)
  have y6 := b6.size
  rw [hz5] at b6 y6
  have HB6 : Hid (Below w.heap.size w w6) := Lib.hid (HB5'.out.trans (b6.mono z5))
  have z6 := HB6.out.size
  clear b6 EQ g0 g1 g2 g3 q0 q1 q2 q3 hz5
  go_wp2_with fail
  refine (TL.out _ HB6.out).mono ?_
  rintro e w7 ⟨v2, X2, rfl, OX2, MX2, p2, b7⟩
  obtain ⟨a2, c2, rfl⟩ := slice_shape OX2
  have T7 := Lib.hid (T6.out.below b7)
  have OX7 := Lib.hid (owns3_below OX6.out b7)
  have MX7 := Lib.hid (MX6.out.below b7)
  have EQL := Lib.hid (l_eqLineS a1 a2 c1 c2 X1 X2 w7 (readL_of OX7.out MX7.out.all) (readL_of OX2 MX2.all) (P1.out.trans p2.symm) (by omega) (fun x hx => by have := HS1.out x hx; exact ⟨this.2.1, this.2.2.2.1⟩))
  have HB7 : Hid (Below w.heap.size w w7) := Lib.hid (HB6.out.trans (b7.mono z6))
  have y7 := b7.size
  have z7 := HB7.out.size
  clear b7 OX2 MX2 p2
  go_wp2_with fail
  refine EQL.out.mono ?_
  rintro e w8 ⟨rfl, b8⟩
  have T8 := Lib.hid (T7.out.below b8)
  have OX8 := Lib.hid (owns3_below OX7.out b8)
  have MX8 := Lib.hid (MX7.out.below b8)
  have HB8 : Hid (Below w.heap.size w w8) := Lib.hid (HB7.out.trans (b8.mono z7))
  have y8 := b8.size
  have z8 := HB8.out.size
  clear b8 EQL
  go_wp2_with fail
  refine (l_markLineS a1 c1 X1 (w3.heap.size + 1) _ OX8.out MX8.out (by omega) (by omega) (fun x hx => by have := HS1.out x hx; exact ⟨this.2.1, this.2.2.2.1⟩) HX1.out).mono ?_
  rintro e w9 ⟨rfl, _, _, b9, k9⟩
  have T9 : Hid (StI 3 24 27 w2.heap.size w4.heap.size w3.heap.size w5.heap.size s' s' (.slice o0 s'.out.length d0) (.slice v0 Y0.length f0) (.slice o1 s'.out.length d1) (.slice v1 Y1.length f1) Y0 Y1 val code w9) := Lib.hid (by
    have far1 : ∀ j, w4.heap.size ≤ j → j < w8.heap.size → w9.heap[j]? = w8.heap[j]? := fun j h1 h2 => k9 j h2 (fun e => by have := (OX4.out.lt j e).2; omega) (fun x hx h => by have := (MX4.out.lt x hx j h).2; omega)
    exact ⟨RunR.move T8.out.R0 (fun v hv g hg => b9.block g (by have := L0.out v hv g hg; omega)), RunR.move T8.out.R1 (fun v hv g hg => by have := RunR.lt T8.out.R1 v hv g hg; exact far1 g this.1 this.2), (b9.block _ (by omega)).trans T8.out.P0, (far1 _ (by omega) (blk T8.out.P1).2.2).trans T8.out.P1⟩)
  have HB9 : Hid (Below w.heap.size w w9) := Lib.hid (HB8.out.trans (b9.mono (by omega)))
  have y9 : w8.heap.size ≤ w9.heap.size := b9.size
  have z9 := HB9.out.size
  have hd9 : decide (((mkN 1 X1 : Nat) : Int) < 0) = false := decide_eq_false (by omega)
  have EQ := Lib.hid (l_eqRun s' _ _ _ _ Y1 Y0 _ _ val code _ T9.out.R1 T9.out.R0 HSR.out)
  obtain ⟨g0, g1, g2, g3⟩ := cells4 T9.out.P0
  obtain ⟨q0, q1, q2, q3⟩ := cells4 T9.out.P1
  clear b9 k9
  go_wp2_with fail
  refine EQ.out.mono ?_
  rintro e w10 ⟨rfl, b10⟩
  have T10 := Lib.hid (T9.out.below b10)
  have HB10 : Hid (Below w.heap.size w w10) := Lib.hid (HB9.out.trans (b10.mono z9))
  have y10 := b10.size
  have z10 := HB10.out.size
  obtain ⟨q0', q1', q2', q3'⟩ := cells4 T10.out.P1
  have MK := Lib.hid (l_markRun s' _ _ Y1 w4.heap.size val code w10 T10.out.R1 HSR.out (by omega))
  clear b10 EQ g0 g1 g2 g3 q0 q1 q2 q3
  go_wp2_with fail
  refine MK.out.mono ?_
  rintro e w11 ⟨rfl, M1, b11, k11⟩
  have y11 := b11.size
  have hlt1 : w5.heap.size < w10.heap.size := (blk T10.out.P1).2.2
  have T11 : Hid (StI 3 24 27 w2.heap.size w4.heap.size w3.heap.size w5.heap.size s' ⟨mki 1 s'.out.length, ivX (miX (1 + s'.out.length) Y1)⟩ (.slice o0 s'.out.length d0) (.slice v0 Y0.length f0) (.slice o1 s'.out.length d1) (.slice v1 Y1.length f1) Y0 (miX (1 + s'.out.length) Y1) val code w11) := Lib.hid (by
    exact ⟨RunR.move T10.out.R0 (fun v hv g hg => b11.block g (by have := L0.out v hv g hg; omega)), M1, (b11.block _ (by omega)).trans T10.out.P0, (k11 _ hlt1 (fun e => by have := L1.out _ RI.o _ e; omega) (fun x hx e => by have := L1.out _ (RI.x hx) _ e; omega)).trans T10.out.P1⟩)
  have HB11 : Hid (Below w.heap.size w w11) := Lib.hid (HB10.out.trans (b11.mono z4))
  have z11 := HB11.out.size
  have hsiv : Hid (Y1.length ≤ 1000 ∧ miN (1 + s'.out.length) Y1 ≤ 1048576) := Lib.hid (by
    have h1 := small_iv HSR.out T10.out.R1.xs
    have h2 := small_miN HSR.out T10.out.R1.xs (1 + s'.out.length)
    have h3 := HSR.out.1
    exact ⟨h1.1, by omega⟩)
  have HD11 := Lib.hid (fun (W : World) (h : RunR 3 24 w4.heap.size W ⟨mki 1 s'.out.length, ivX (miX (1 + s'.out.length) Y1)⟩ (.slice o1 s'.out.length d1) (.slice v1 Y1.length f1) (miX (1 + s'.out.length) Y1)) => l_heldRun s'.out.length _ _ _ Y1 w4.heap.size val code W h HSR.out.1 hsiv.out.1 hsiv.out.2)
  obtain ⟨mn, hmn⟩ : ∃ mn, miN (1 + s'.out.length) Y1 = mn := ⟨_, rfl⟩
  rw [hmn] at HD11
  have HMN := Lib.hid hmn
  clear hmn
  have hdr : decide (((mn : Nat) : Int) < 0) = false := decide_eq_false (by omega)
  obtain ⟨q0, q1, q2, q3⟩ := cells4 T11.out.P1
  clear M1 b11 k11 MK q0' q1' q2' q3'
  rw [HMN.out]
  go_wp2_with fail
  refine (HD11.out _ T11.out.R1).mono ?_
  rintro e w12 ⟨rfl, b12⟩
  have T12 := Lib.hid (T11.out.below b12)
  have HB12 : Hid (Below w.heap.size w w12) := Lib.hid (HB11.out.trans (b12.mono z11))
  have y12 := b12.size
  have z12 := HB12.out.size
  clear b12 q0 q1 q2 q3
  go_wp2_with fail
  refine (TL.out _ HB12.out).mono ?_
  rintro e w13 ⟨v3, X3, rfl, OX3, MX3, p3, b13⟩
  obtain ⟨a3, c3, rfl⟩ := slice_shape OX3
  have HB13 : Hid (Below w.heap.size w w13) := Lib.hid (HB12.out.trans (b13.mono z12))
  have S3 := Lib.hid (SI.out X3 a3 c3 w13 p3 (by rw [HPL.out _ p3]; exact hl) (own_cap OX3) (readL_of OX3 MX3.all) (HSH.out.on HB13.out))
  have T13 := Lib.hid (T12.out.below b13)
  have z13 := HB13.out.size
  clear b13 OX3 MX3 p3
  go_wp2_with fail
  refine S3.out.mono ?_
  rintro e w14 ⟨ov3, vv3, Y3, rfl, hR3, b14⟩
  obtain ⟨o3, d3, rfl⟩ := owns_shape hR3.out
  obtain ⟨v3, f3, rfl⟩ := owns_shape hR3.vis
  have ba : Below w14.heap.size w14 (w14.alloc (.cells #[.slice o3 s'.out.length d3, .slice v3 Y3.length f3, .int .i64 val, .int .i64 code] 27)) := (Below.refl w14.heap.size w14).alloc (Nat.le_refl _) _
  have R3 := Lib.hid (hR3.below ba)
  have T14 := Lib.hid ((T13.out.below b14).below ba)
  have P3 := Lib.hid (heap_alloc_new w14 (.cells #[.slice o3 s'.out.length d3, .slice v3 Y3.length f3, .int .i64 val, .int .i64 code] 27))
  have HB14 : Hid (Below w.heap.size w (w14.alloc (.cells #[.slice o3 s'.out.length d3, .slice v3 Y3.length f3, .int .i64 val, .int .i64 code] 27))) := Lib.hid ((HB13.out.trans (b14.mono z13)).trans (ba.mono (by have := b14.size; omega)))
  have z14 := HB14.out.size
  have EQ := Lib.hid (l_eqRun s' _ _ _ _ Y3 Y0 _ _ val code _ R3.out T14.out.R0 HSR.out)
  obtain ⟨g0, g1, g2, g3⟩ := cells4 T14.out.P0
  obtain ⟨q0, q1, q2, q3⟩ := cells4 P3.out
  clear ba b14 hR3 S3
  go_wp2_with fail
  refine EQ.out.mono ?_
  rintro e w15 ⟨rfl, b15⟩
  have T15 := Lib.hid (T14.out.below b15)
  have HB15 : Hid (Below w.heap.size w w15) := Lib.hid (HB14.out.trans (b15.mono z14))
  have z15 := HB15.out.size
  clear b15 EQ g0 g1 g2 g3 q0 q1 q2 q3
  obtain ⟨q0, q1, q2, q3⟩ := cells4 T15.out.P1
  go_wp2_with fail
  refine (HD11.out _ T15.out.R1).mono ?_
  rintro e w16 ⟨rfl, b16⟩
  have HB16 : Hid (Below w.heap.size w w16) := Lib.hid (HB15.out.trans (b16.mono z15))
  clear b16
  go_wp2
  go_ret
  exact ⟨rfl, HB16.out⟩
end Go.Proofs.YtcffmdmdojkggaaGreatDoor.fnExactInterpret
