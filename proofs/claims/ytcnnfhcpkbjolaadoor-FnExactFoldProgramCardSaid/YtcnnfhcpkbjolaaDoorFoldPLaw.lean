/- The walk of the law on FoldProgram. -/
import Derived.Test.YtcnnfhcpkbjolaaDoorFoldPP
import Derived.Test.YtcnnfhcpkbjolaaDoorLineL
import Derived.Test.YtcnnfhcpkbjolaaDoorLineE
import Derived.Test.YtcnnfhcpkbjolaaDoorMarkL
import Derived.Test.YtcnnfhcpkbjolaaDoorHeldL
namespace Go.Proofs.YtcnnfhcpkbjolaaDoor.fnExactFoldProgram
open Go.RowKit Go.Lib

theorem small_pl {X : List LnL} {l : List ALine} (h : plL X = psA l) (hs : ∀ x ∈ l, SmallL x.p) : ∀ x ∈ X, SmallL x.p := by
  intro x hx
  have hm : x.p ∈ psA l := by rw [← h]; exact List.mem_map_of_mem hx
  obtain ⟨y, hy, e⟩ := List.mem_map.1 hm
  rw [← e]
  exact hs y hy
theorem len_pl {X : List LnL} {l : List ALine} (h : plL X = psA l) : X.length = l.length := by have := congrArg List.length h; simpa [plL, psA] using this
/-- How many arguments and tokens. -/
def sumP (ps : List PLine) : Nat := (ps.map fun p => p.args.length + p.expr.length).sum
theorem sumP_of (l : List ALine) : sumP (psA l) = sumA l := by
  unfold sumP psA sumA
  rw [List.map_map]
  rfl
theorem mkN_sum (X : List LnL) : ∀ m, mkN m X ≤ m + 2 * X.length + 3 * sumP (plL X) := by
  induction X with
  | nil => intro m; exact Nat.le_add_right _ _
  | cons x r ih =>
    intro m
    have h1 := ih (nxt m x)
    have h2 : mkN m (x :: r) = mkN (nxt m x) r := rfl
    have h3 : sumP (plL (x :: r)) = (x.args.length + x.expr.length) + sumP (plL r) := by simp [sumP, plL, LnL.p]
    rw [h2, h3, List.length_cons]
    unfold nxt at h1 ⊢
    omega
theorem owns_blk {B T n s : Nat} {w w' : World} {v : Value} {xs : List Value} (h : w.ownsRow B T s v n xs) (hb : ∀ g, v.ownBlock = some g → w'.heap[g]? = w.heap[g]?) : w'.ownsRow B T s v n xs := by
  refine ⟨h.1, ?_⟩
  rcases h.2 with h | ⟨g, cap, cur, rfl, hB, hh, r⟩
  · exact .inl h
  · exact .inr ⟨g, cap, cur, rfl, hB, (hb g rfl).trans hh, r⟩
theorem made_blk {TS TK : TypeId} {B : Nat} {w w' : World} {X : List LnL} (h : Made TS TK B w X) (hb : ∀ x ∈ X, ∀ g, x.has g → w'.heap[g]? = w.heap[g]?) : Made TS TK B w' X :=
  ⟨fun x hx => ⟨owns_blk (h.1 x hx).1 (fun g hg => hb x hx g (.inl hg)), owns_blk (h.1 x hx).2 (fun g hg => hb x hx g (.inr hg))⟩, h.2⟩
theorem own_cap {B T n s m c : Nat} {a : Option Addr} {w : World} {xs : List Value} (h : w.ownsRow B T s (.slice a m c) n xs) : n ≤ c := by
  rcases h.2 with ⟨_, h0⟩ | ⟨g, cap, cur, e, _, _, hn, _⟩
  · omega
  · injection e with _ _ e3
    omega
theorem readX {B T TS TK : TypeId} {c n : Nat} {w : World} {a : Option Addr} {X : List LnL} (hn : X.length = n) (h : w.ownsRow B T 4 (.slice a n c) n (lnsV X)) (hA : AllIn TS TK w X) : ReadL TS TK w a X := by
  subst hn
  exact readL_of h hA
/-- What is handed back is small. -/
def ValOf (ps R : List PLine) : Prop := R = if pokB ps = true then foldP ps else []
theorem val_small {X : List LnL} {ps R : List PLine} (h : plL X = R) (hv : ValOf ps R) : X.length ≤ 60 ∧ (∀ x ∈ X, x.args.length ≤ 4 ∧ x.expr.length ≤ 20) ∧ mkN 1 X ≤ 4000000 := by
  have hb : R.length ≤ 60 ∧ ∀ x ∈ R, lineB x = true := by
    unfold ValOf at hv
    split at hv
    · rename_i hp
      have ho := ok_fold ((pokB_iff ps).1 hp)
      rw [hv]
      exact ho.1
    · rw [hv]
      exact ⟨Nat.zero_le _, fun x hx => by cases hx⟩
  have h1 : X.length ≤ 60 := by rw [← h, plL_length] at hb; exact hb.1
  have h2 : ∀ x ∈ X, x.args.length ≤ 4 ∧ x.expr.length ≤ 20 := fun x hx => by
    have hl : lineB x.p = true := hb.2 _ (by rw [← h]; exact List.mem_map_of_mem hx)
    exact ⟨line_args _ hl, (ef_small _ _ ((lineB_iff _).1 hl).2.2.2).1⟩
  refine ⟨h1, h2, ?_⟩
  have := mkN_le X 1 h2
  omega

set_option maxRecDepth 100000 in
set_option maxHeartbeats 8000000 in
theorem walk (a : Option Addr) (cap : Nat) (l : List ALine) (w : World) (hm : l.length ≤ maxLen) (ha : ArgLs w a l) (hL : laidMet Tryd.prog Rows.fnExactFoldProgramRow.laid w) :
    Calls Tryd.prog 4 #[.slice a l.length cap] w fun e w' => e = .returned (.bool true) ∧ Below w.heap.size w w' := by
  have HSH := Lib.hid (shapes_head hL)
  clear hL
  have HA := Lib.hid ha
  clear ha
  go_enter Tryd.func4, Tryd.ntmps4
  go_wp2_with fail
  refine (l_szLineS a cap l 1048576 _ hm HA.out (by omega) (by omega)).mono ?_
  rintro e w1 ⟨r, rfl, b1, hr⟩
  have HB1 := Lib.hid b1
  have z1 := b1.size
  clear b1
  rcases hr with rfl | ⟨hr0, hle, hsm⟩
  · go_wp2
    go_ret
    exact ⟨rfl, HB1.out⟩
  have hl : l.length ≤ 1048576 := by omega
  have hd : decide (r < 0) = false := by simp; omega
  have HSM := Lib.hid hsm
  have HLE : Hid (l.length + sumA l ≤ 1048576) := Lib.hid (by omega)
  clear hsm
  have TL := Lib.hid (fun (W : World) (hb : Below w.heap.size w W) => l_toLineS a cap l W hl (HA.out.below hb) HSM.out)
  obtain ⟨R, hres⟩ : ∃ R, R = if pokB (psA l) = true then foldP (psA l) else [] := ⟨_, rfl⟩
  have HV : Hid (ValOf (psA l) R) := Lib.hid hres
  have SS : Hid (∀ (X : List LnL) (hp : plL X = psA l) (a0 : Option Addr) (c0 : Nat) (W : World) (h : ReadL 9 83 W a0 X), Calls Tryd.prog 16 #[.slice a0 X.length c0] W (LnsW 48 9 83 W.heap.size R W)) := Lib.hid (fun X hp a0 c0 W h => by
    have := s_foldProgram a0 c0 X W (by have := len_pl hp; omega) h (small_pl hp HSM.out)
    rw [hp, ← hres] at this
    exact this)
  have SI : Hid (∀ (X : List LnL) (hp : plL X = psA l) (a0 : Option Addr) (c0 : Nat) (W : World) (hc : X.length ≤ c0) (h : ReadL 9 83 W a0 X) (hb : Below w.heap.size w W), Calls Tryd.prog 9 #[.slice a0 X.length c0] W (LnsRes 48 9 83 W.heap.size R W)) := Lib.hid (fun X hp a0 c0 W hc h hb => by
    have := i_foldProgram a0 c0 X W (by have := len_pl hp; omega) hc h (small_pl hp HSM.out) (HSH.out.on hb)
    rw [hp, ← hres] at this
    exact this)
  clear hres
  obtain ⟨ps, hps⟩ : ∃ ps, psA l = ps := ⟨_, rfl⟩
  rw [hps] at TL SS SI HV
  have HQ := Lib.hid hps
  clear hps
  go_wp2_with fail
  refine (TL.out _ HB1.out).mono ?_
  rintro e w2 ⟨v0, X0, rfl, OX0, MX0, p0, b2⟩
  obtain ⟨a0, c0, rfl⟩ := slice_shape OX0
  have S0 := Lib.hid (SS.out X0 p0 a0 c0 w2 (readL_of OX0 MX0.all))
  have HB2 : Hid (Below w.heap.size w w2) := Lib.hid (HB1.out.trans (b2.mono z1))
  have z2 := HB2.out.size
  clear b2 OX0 MX0 p0
  go_wp2_with fail
  refine S0.out.mono ?_
  rintro e w3 ⟨v0, Y0, rfl, O0, M0, y0, b3⟩
  obtain ⟨q0, d0, rfl⟩ := owns3_shape O0
  have R03 := Lib.hid (readL_of O0 M0.all)
  have P0 := Lib.hid y0
  have HB3 : Hid (Below w.heap.size w w3) := Lib.hid (HB2.out.trans (b3.mono z2))
  have z3 := HB3.out.size
  clear b3 O0 M0 S0 y0
  go_wp2_with fail
  refine (TL.out _ HB3.out).mono ?_
  rintro e w4 ⟨v1, X1, rfl, OX1, MX1, p1, b4⟩
  obtain ⟨a1, c1, rfl⟩ := slice_shape OX1
  have hX1 : X1.length ≤ 1048576 := by have := len_pl (p1.trans HQ.out.symm); omega
  have HX1 : Hid (mkN 1 X1 ≤ 4000000) := Lib.hid (by
    have h1 := mkN_sum X1 1
    rw [p1, ← HQ.out, sumP_of] at h1
    have h2 := HLE.out
    have h3 := len_pl (p1.trans HQ.out.symm)
    omega)
  have HS1 := Lib.hid (small_pl (p1.trans HQ.out.symm) HSM.out)
  have P1 := Lib.hid p1
  have OX4 := Lib.hid OX1
  have MX4 := Lib.hid MX1
  have HB4 : Hid (Below w.heap.size w w4) := Lib.hid (HB3.out.trans (b4.mono z3))
  have S1 := Lib.hid (SI.out X1 p1 a1 c1 w4 (own_cap OX1) (readL_of OX1 MX1.all) HB4.out)
  have R04 := Lib.hid (R03.out.below b4)
  have HC4 : Hid (Below w3.heap.size w3 w4) := Lib.hid b4
  have y4 := b4.size
  have z4 := HB4.out.size
  clear b4 OX1 MX1 p1
  go_wp2_with fail
  refine S1.out.mono ?_
  rintro e w5 ⟨v1, Y1, rfl, O1, M1, yp1, b5⟩
  obtain ⟨q1, d1, rfl⟩ := owns3_shape O1
  have hvs := val_small yp1 HV.out
  obtain ⟨h60, hsm1, hN1⟩ := hvs
  have PY1 := Lib.hid yp1
  have HSM1 := Lib.hid hsm1
  have HNN := Lib.hid hN1
  have O15 := Lib.hid O1
  have M15 := Lib.hid M1
  have OX5 := Lib.hid (owns3_below OX4.out b5)
  have MX5 := Lib.hid (MX4.out.below b5)
  have HB5 : Hid (Below w.heap.size w w5) := Lib.hid (HB4.out.trans (b5.mono z4))
  have HC5 : Hid (Below w3.heap.size w3 w5) := Lib.hid (HC4.out.trans (b5.mono y4))
  have y5 := b5.size
  have z5 := HB5.out.size
  have EQ := Lib.hid (fun (W : World) h1 h2 => l_eqLineS q1 q0 d1 d0 Y1 Y0 W h1 h2 (PY1.out.trans P0.out.symm) (by omega) (fun x hx => by have := HSM1.out x hx; omega))
  clear b5 O1 M1 S1 yp1 hsm1 hN1
  go_wp2_with fail
  refine (EQ.out _ (readL_of O15.out M15.out.all) (R03.out.below HC5.out)).mono ?_
  rintro e w6 ⟨rfl, b6⟩
  have O16 := Lib.hid (owns3_below O15.out b6)
  have M16 := Lib.hid (M15.out.below b6)
  have OX6 := Lib.hid (owns3_below OX5.out b6)
  have MX6 := Lib.hid (MX5.out.below b6)
  have HB6 : Hid (Below w.heap.size w w6) := Lib.hid (HB5.out.trans (b6.mono z5))
  have HC6 : Hid (Below w3.heap.size w3 w6) := Lib.hid (HC5.out.trans (b6.mono (by omega)))
  have y6 := b6.size
  have z6 := HB6.out.size
  clear b6
  go_wp2_with fail
  refine (TL.out _ HB6.out).mono ?_
  rintro e w7 ⟨v2, X2, rfl, OX2, MX2, p2, b7⟩
  obtain ⟨a2, c2, rfl⟩ := slice_shape OX2
  have O17 := Lib.hid (owns3_below O16.out b7)
  have M17 := Lib.hid (M16.out.below b7)
  have OX7 := Lib.hid (owns3_below OX6.out b7)
  have MX7 := Lib.hid (MX6.out.below b7)
  have EQ2 := Lib.hid (l_eqLineS a1 a2 c1 c2 X1 X2 w7 (readL_of OX7.out MX7.out.all) (readL_of OX2 MX2.all) (P1.out.trans p2.symm) (by omega) (fun x hx => by have := HS1.out x hx; exact ⟨this.2.1, this.2.2.2.1⟩))
  have HB7 : Hid (Below w.heap.size w w7) := Lib.hid (HB6.out.trans (b7.mono z6))
  have HC7 : Hid (Below w3.heap.size w3 w7) := Lib.hid (HC6.out.trans (b7.mono (by omega)))
  have y7 := b7.size
  have z7 := HB7.out.size
  clear b7 OX2 MX2 p2
  go_wp2_with fail
  refine EQ2.out.mono ?_
  rintro e w8 ⟨rfl, b8⟩
  have O18 := Lib.hid (owns3_below O17.out b8)
  have M18 := Lib.hid (M17.out.below b8)
  have OX8 := Lib.hid (owns3_below OX7.out b8)
  have MX8 := Lib.hid (MX7.out.below b8)
  have HB8 : Hid (Below w.heap.size w w8) := Lib.hid (HB7.out.trans (b8.mono z7))
  have HC8 : Hid (Below w3.heap.size w3 w8) := Lib.hid (HC7.out.trans (b8.mono (by omega)))
  have y8 := b8.size
  have z8 := HB8.out.size
  clear b8 EQ2
  go_wp2_with fail
  refine (l_markLineS a1 c1 X1 w3.heap.size _ OX8.out MX8.out (by omega) (by omega) (fun x hx => by have := HS1.out x hx; exact ⟨this.2.1, this.2.2.2.1⟩) HX1.out).mono ?_
  rintro e w9 ⟨rfl, _, _, b9, k9⟩
  have KEPT : Hid (∀ j, w4.heap.size ≤ j → j < w8.heap.size → w9.heap[j]? = w8.heap[j]?) := Lib.hid (fun j h1 h2 => k9 j h2 (fun e => by
      have h3 := (OX4.out.lt j e).2
      omega) (fun x hx h => by
      have h3 := (MX4.out.lt x hx j h).2
      omega))
  have O19 : Hid (w9.ownsRow w4.heap.size 48 4 (.slice q1 Y1.length d1) Y1.length (lnsV Y1)) := Lib.hid (owns_blk O18.out (fun j hj => KEPT.out j (O18.out.lt j hj).1 (O18.out.lt j hj).2))
  have M19 : Hid (Made 9 83 w4.heap.size w9 Y1) := Lib.hid (made_blk M18.out (fun x hx j hj => KEPT.out j (M18.out.lt x hx j hj).1 (M18.out.lt x hx j hj).2))
  have HB9 : Hid (Below w.heap.size w w9) := Lib.hid (HB8.out.trans (b9.mono z3))
  have HC9 : Hid (Below w3.heap.size w3 w9) := Lib.hid (HC8.out.trans b9)
  have y9 : w8.heap.size ≤ w9.heap.size := b9.size
  have z9 := HB9.out.size
  have hd9 : decide (((mkN 1 X1 : Nat) : Int) < 0) = false := decide_eq_false (by omega)
  clear b9 k9
  go_wp2_with fail
  refine (EQ.out _ (readL_of O19.out M19.out.all) (R03.out.below HC9.out)).mono ?_
  rintro e w10 ⟨rfl, b10⟩
  have O1a := Lib.hid (owns3_below O19.out b10)
  have M1a := Lib.hid (M19.out.below b10)
  have HB10 : Hid (Below w.heap.size w w10) := Lib.hid (HB9.out.trans (b10.mono z9))
  have HC10 : Hid (Below w3.heap.size w3 w10) := Lib.hid (HC9.out.trans (b10.mono (by omega)))
  have y10 := b10.size
  have z10 := HB10.out.size
  clear b10 EQ
  go_wp2_with fail
  refine (l_markLineS q1 d1 Y1 w4.heap.size _ O1a.out M1a.out (by omega) (by omega) (fun x hx => by have := HSM1.out x hx; omega) HNN.out).mono ?_
  rintro e w11 ⟨rfl, O1b, M1b, b11, _⟩
  have R6 : Hid (ReadL 9 83 w11 q1 (mkX 1 Y1)) := Lib.hid (readX (mkX_length Y1 1) O1b M1b.all)
  have HB11 : Hid (Below w.heap.size w w11) := Lib.hid (HB10.out.trans (b11.mono z4))
  have HC11 : Hid (Below w3.heap.size w3 w11) := Lib.hid (HC10.out.trans (b11.mono y4))
  have HH := Lib.hid (fun (W : World) h => l_heldLineS q1 d1 Y1 W h (by omega) (fun x hx => by have := HSM1.out x hx; omega) HNN.out)
  have z11 := HB11.out.size
  have y11 : w10.heap.size ≤ w11.heap.size := b11.size
  clear O1b M1b b11
  have hdr : decide (((mkN 1 Y1 : Nat) : Int) < 0) = false := decide_eq_false (by omega)
  go_wp2_with fail
  refine (HH.out _ R6.out).mono ?_
  rintro e w12 ⟨rfl, b12⟩
  have R7 := Lib.hid (R6.out.below b12)
  have HB12 : Hid (Below w.heap.size w w12) := Lib.hid (HB11.out.trans (b12.mono z11))
  have HC12 : Hid (Below w3.heap.size w3 w12) := Lib.hid (HC11.out.trans (b12.mono (by omega)))
  have z12 := HB12.out.size
  have y12 := b12.size
  clear b12
  go_wp2_with fail
  refine (TL.out _ HB12.out).mono ?_
  rintro e w13 ⟨v3, X3, rfl, OX3, MX3, p3, b13⟩
  obtain ⟨a3, c3, rfl⟩ := slice_shape OX3
  have HB13 : Hid (Below w.heap.size w w13) := Lib.hid (HB12.out.trans (b13.mono z12))
  have HC13 : Hid (Below w3.heap.size w3 w13) := Lib.hid (HC12.out.trans (b13.mono (by omega)))
  have S3 := Lib.hid (SI.out X3 p3 a3 c3 w13 (own_cap OX3) (readL_of OX3 MX3.all) HB13.out)
  have R8 := Lib.hid (R7.out.below b13)
  have z13 := HB13.out.size
  have y13 := b13.size
  clear b13 OX3 MX3 p3
  go_wp2_with fail
  refine S3.out.mono ?_
  rintro e w14 ⟨v3, Y3, rfl, O3, M3, yp3, b14⟩
  obtain ⟨q3, d3, rfl⟩ := owns3_shape O3
  obtain ⟨h603, hsm3, _⟩ := val_small yp3 HV.out
  have HSM3 := Lib.hid hsm3
  have PY3 := Lib.hid yp3
  have R9 := Lib.hid (R8.out.below b14)
  have RY3 := Lib.hid (readL_of O3 M3.all)
  have HB14 : Hid (Below w.heap.size w w14) := Lib.hid (HB13.out.trans (b14.mono z13))
  have HC14 : Hid (Below w3.heap.size w3 w14) := Lib.hid (HC13.out.trans (b14.mono (by omega)))
  have z14 := HB14.out.size
  have EQ3 := Lib.hid (l_eqLineS q3 q0 d3 d0 Y3 Y0 w14 RY3.out (R03.out.below HC14.out) (PY3.out.trans P0.out.symm) (by omega) (fun x hx => by have := HSM3.out x hx; omega))
  clear b14 O3 M3 S3 yp3 hsm3
  go_wp2_with fail
  refine EQ3.out.mono ?_
  rintro e w15 ⟨rfl, b15⟩
  have R10 := Lib.hid (R9.out.below b15)
  have HB15 : Hid (Below w.heap.size w w15) := Lib.hid (HB14.out.trans (b15.mono z14))
  have z15 := HB15.out.size
  clear b15
  go_wp2_with fail
  refine (HH.out _ R10.out).mono ?_
  rintro e w16 ⟨rfl, b16⟩
  have HB16 : Hid (Below w.heap.size w w16) := Lib.hid (HB15.out.trans (b16.mono z15))
  clear b16
  go_wp2
  go_ret
  exact ⟨rfl, HB16.out⟩
end Go.Proofs.YtcnnfhcpkbjolaaDoor.fnExactFoldProgram
