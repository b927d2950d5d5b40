/- The walk of the law on FunctionLines. -/
import Derived.Test.YthmllcpldgbbcaaFunLines
import Derived.Test.YthmllcpldgbbcaaMarkInts
import Derived.Test.YthmllcpldgbbcaaLinesLaw
import Derived.Test.YthmllcpldgbbcaaLinesEq
import Derived.Test.YthmllcpldgbbcaaMarkLines
namespace Go.Proofs.Ythmllcpldgbbcaa.fnExactFunctionLines
open Go.RowKit Go.Lib

theorem small_pl {X : List LnL} {l : List ALine} (h : plL X = psA l) (hs : ∀ x ∈ l, SmallL x.p) : ∀ x ∈ X, SmallL x.p := by
  intro x hx
  have hm : x.p ∈ psA l := by rw [← h]; exact List.mem_map_of_mem hx
  obtain ⟨y, hy, e⟩ := List.mem_map.1 hm
  rw [← e]
  exact hs y hy
theorem len_pl {X : List LnL} {l : List ALine} (h : plL X = psA l) : X.length = l.length := by have := congrArg List.length h; simpa [plL, psA] using this
/-- How many arguments and tokens. -/
def sumP (ps : List PLine) : Nat := (ps.map fun p => p.args.length + p.expr.length).sum
theorem sumP_of (l : List ALine) : sumP (psA l) = sumA l := by
  unfold sumP psA sumA
  rw [List.map_map]
  rfl
theorem mkN_sum (X : List LnL) : ∀ m, mkN m X ≤ m + 2 * X.length + 3 * sumP (plL X) := by
  induction X with
  | nil => intro m; exact Nat.le_add_right _ _
  | cons x r ih =>
    intro m
    have h1 := ih (nxt m x)
    have h2 : mkN m (x :: r) = mkN (nxt m x) r := rfl
    have h3 : sumP (plL (x :: r)) = (x.args.length + x.expr.length) + sumP (plL r) := by simp [sumP, plL, LnL.p]
    rw [h2, h3, List.length_cons]
    unfold nxt at h1 ⊢
    omega
theorem owns_blk {B T n s : Nat} {w w' : World} {v : Value} {xs : List Value} (h : w.ownsRow B T s v n xs) (hb : ∀ g, v.ownBlock = some g → w'.heap[g]? = w.heap[g]?) : w'.ownsRow B T s v n xs := by
  refine ⟨h.1, ?_⟩
  rcases h.2 with h | ⟨g, cap, cur, rfl, hB, hh, r⟩
  · exact .inl h
  · exact .inr ⟨g, cap, cur, rfl, hB, (hb g rfl).trans hh, r⟩
theorem own_cap {B T n s m c : Nat} {a : Option Addr} {w : World} {xs : List Value} (h : w.ownsRow B T s (.slice a m c) n xs) : n ≤ c := by
  rcases h.2 with ⟨_, h0⟩ | ⟨g, cap, cur, e, _, _, hn, _⟩
  · omega
  · injection e with _ _ e3
    omega
theorem funF_len (l : List PLine) : ∀ i, (funF i l).length ≤ l.length := by
  induction l with
  | nil => intro i; exact Nat.le_refl _
  | cons x r ih =>
    intro i
    have := ih (i + 1)
    unfold funF
    split
    · rw [List.length_cons, List.length_cons]; omega
    · rw [List.length_cons]; omega
theorem funI_len (p : List PLine) : (funI p).length ≤ p.length := by
  unfold funI funs
  rw [List.length_map]
  exact funF_len p 0
theorem psA_len (l : List ALine) : (psA l).length = l.length := by unfold psA; rw [List.length_map]

set_option maxRecDepth 100000 in
set_option maxHeartbeats 8000000 in
theorem walk (a : Option Addr) (cap : Nat) (l : List ALine) (w : World) (hm : l.length ≤ maxLen) (ha : ArgLs w a l) :
    Calls Try.prog 5 #[.slice a l.length cap] w fun e w' => e = .returned (.bool true) ∧ Below w.heap.size w w' := by
  have HA := Lib.hid ha
  clear ha
  go_enter Try.func5, Try.ntmps5
  go_wp2_with fail
  refine (l_szLineS a cap l 1048576 _ hm HA.out (by omega) (by omega)).mono ?_
  rintro e w1 ⟨r, rfl, b1, hr⟩
  have HB1 := Lib.hid b1
  have z1 := b1.size
  clear b1
  rcases hr with rfl | ⟨hr0, hle, hsm⟩
  · go_wp2
    go_ret
    exact ⟨rfl, HB1.out⟩
  have hl : l.length ≤ 1048576 := by omega
  have hd : decide (r < 0) = false := by simp; omega
  have HSM := Lib.hid hsm
  have HLE : Hid (l.length + sumA l ≤ 1048576) := Lib.hid (by omega)
  clear hsm
  have TL := Lib.hid (fun (W : World) (hb : Below w.heap.size w W) => l_toLineS a cap l W hl (HA.out.below hb) HSM.out)
  have HRL : Hid ((funI (psA l)).length ≤ 1048576) := Lib.hid (by have h := funI_len (psA l); have h2 := psA_len l; omega)
  obtain ⟨R, hres⟩ : ∃ R, funI (psA l) = R := ⟨_, rfl⟩
  rw [hres] at HRL
  have HRES := Lib.hid hres
  clear hres
  have SS : Hid (∀ (X : List LnL) (hp : plL X = psA l) (a0 : Option Addr) (c0 : Nat) (W : World) (hc : X.length ≤ c0) (h : ReadL 9 65 W a0 X), Calls Try.prog 15 #[.slice a0 X.length c0] W (Ints 3 W.heap.size R W)) := Lib.hid (fun X hp a0 c0 W hc h => by
    have := s_funLines a0 c0 X W (by have := len_pl hp; omega) h
    rw [hp, HRES.out] at this
    exact this)
  have SI : Hid (∀ (X : List LnL) (hp : plL X = psA l) (a0 : Option Addr) (c0 : Nat) (W : World) (hc : X.length ≤ c0) (h : ReadL 9 65 W a0 X), Calls Try.prog 16 #[.slice a0 X.length c0] W (Ints 3 W.heap.size R W)) := Lib.hid (fun X hp a0 c0 W hc h => by
    have := i_funLines a0 c0 X W (by have := len_pl hp; omega) h
    rw [hp, HRES.out] at this
    exact this)
  have HPS := Lib.hid (rfl : psA l = psA l)
  obtain ⟨ps, hps⟩ : ∃ ps, psA l = ps := ⟨_, rfl⟩
  rw [hps] at TL SS SI
  have HQ := Lib.hid hps
  clear hps HPS
  have hrl := HRL.out
  go_wp2_with fail
  refine (TL.out _ HB1.out).mono ?_
  rintro e w2 ⟨v0, X0, rfl, OX0, MX0, p0, b2⟩
  obtain ⟨a0, c0, rfl⟩ := slice_shape OX0
  have S0 := Lib.hid (SS.out X0 p0 a0 c0 w2 (own_cap OX0) (readL_of OX0 MX0.all))
  have HB2 : Hid (Below w.heap.size w w2) := Lib.hid (HB1.out.trans (b2.mono z1))
  have z2 := HB2.out.size
  clear b2 OX0 MX0 p0
  go_wp2_with fail
  refine S0.out.mono ?_
  rintro e w3 ⟨v0, rfl, O0, b3⟩
  obtain ⟨q0, d0, rfl⟩ := owns3_shape O0
  have O03 := Lib.hid O0
  have HB3 : Hid (Below w.heap.size w w3) := Lib.hid (HB2.out.trans (b3.mono z2))
  have z3 := HB3.out.size
  clear b3 O0 S0
  go_wp2_with fail
  refine (TL.out _ HB3.out).mono ?_
  rintro e w4 ⟨v1, X1, rfl, OX1, MX1, p1, b4⟩
  obtain ⟨a1, c1, rfl⟩ := slice_shape OX1
  have hX1 : X1.length ≤ 1048576 := by have := len_pl (p1.trans HQ.out.symm); omega
  have HX1 : Hid (mkN 1 X1 ≤ 4000000) := Lib.hid (by
    have h1 := mkN_sum X1 1
    rw [p1, ← HQ.out, sumP_of] at h1
    have h2 := HLE.out
    have h3 := len_pl (p1.trans HQ.out.symm)
    omega)
  have HS1 := Lib.hid (small_pl (p1.trans HQ.out.symm) HSM.out)
  have P1 := Lib.hid p1
  have OX4 := Lib.hid OX1
  have MX4 := Lib.hid MX1
  have S1 := Lib.hid (SI.out X1 p1 a1 c1 w4 (own_cap OX1) (readL_of OX1 MX1.all))
  have O04 := Lib.hid (owns3_below O03.out b4)
  have HB4 : Hid (Below w.heap.size w w4) := Lib.hid (HB3.out.trans (b4.mono z3))
  have y4 := b4.size
  have z4 := HB4.out.size
  clear b4 OX1 MX1 p1
  go_wp2_with fail
  refine S1.out.mono ?_
  rintro e w5 ⟨v1, rfl, O1, b5⟩
  obtain ⟨q1, d1, rfl⟩ := owns3_shape O1
  have O15 := Lib.hid O1
  have O05 := Lib.hid (owns3_below O04.out b5)
  have OX5 := Lib.hid (owns3_below OX4.out b5)
  have MX5 := Lib.hid (MX4.out.below b5)
  have HB5 : Hid (Below w.heap.size w w5) := Lib.hid (HB4.out.trans (b5.mono z4))
  have y5 := b5.size
  have z5 := HB5.out.size
  clear b5 O1 S1
  go_wp2_with fail
  refine (l_eqInts q1 q0 d1 d0 R _ (readI_of O15.out) (readI_of O05.out) (by omega)).mono ?_
  rintro e w6 ⟨rfl, b6⟩
  have O16 := Lib.hid (owns3_below O15.out b6)
  have O06 := Lib.hid (owns3_below O05.out b6)
  have OX6 := Lib.hid (owns3_below OX5.out b6)
  have MX6 := Lib.hid (MX5.out.below b6)
  have HB6 : Hid (Below w.heap.size w w6) := Lib.hid (HB5.out.trans (b6.mono z5))
  have y6 := b6.size
  have z6 := HB6.out.size
  clear b6
  go_wp2_with fail
  refine (TL.out _ HB6.out).mono ?_
  rintro e w7 ⟨v2, X2, rfl, OX2, MX2, p2, b7⟩
  obtain ⟨a2, c2, rfl⟩ := slice_shape OX2
  have O17 := Lib.hid (owns3_below O16.out b7)
  have O07 := Lib.hid (owns3_below O06.out b7)
  have OX7 := Lib.hid (owns3_below OX6.out b7)
  have MX7 := Lib.hid (MX6.out.below b7)
  have EQ := Lib.hid (l_eqLineS a1 a2 c1 c2 X1 X2 w7 (readL_of OX7.out MX7.out.all) (readL_of OX2 MX2.all) (P1.out.trans p2.symm) (by omega) (fun x hx => by have := HS1.out x hx; exact ⟨this.2.1, this.2.2.2.1⟩))
  have HB7 : Hid (Below w.heap.size w w7) := Lib.hid (HB6.out.trans (b7.mono z6))
  have y7 := b7.size
  have z7 := HB7.out.size
  clear b7 OX2 MX2 p2
  go_wp2_with fail
  refine EQ.out.mono ?_
  rintro e w8 ⟨rfl, b8⟩
  have O18 := Lib.hid (owns3_below O17.out b8)
  have O08 := Lib.hid (owns3_below O07.out b8)
  have OX8 := Lib.hid (owns3_below OX7.out b8)
  have MX8 := Lib.hid (MX7.out.below b8)
  have HB8 : Hid (Below w.heap.size w w8) := Lib.hid (HB7.out.trans (b8.mono z7))
  have y8 := b8.size
  have z8 := HB8.out.size
  clear b8 EQ
  go_wp2_with fail
  refine (l_markLineS a1 c1 X1 w3.heap.size _ OX8.out MX8.out (by omega) (by omega) (fun x hx => by have := HS1.out x hx; exact ⟨this.2.1, this.2.2.2.1⟩) HX1.out).mono ?_
  rintro e w9 ⟨rfl, _, _, b9, k9⟩
  have O19 : Hid (w9.ownsRow w4.heap.size 3 1 (.slice q1 R.length d1) R.length (intV R)) := Lib.hid (owns_blk O18.out (fun j hj => k9 j (O18.out.lt j hj).2 (fun e => by
      have h1 := (O18.out.lt j hj).1
      have h2 := (OX4.out.lt j e).2
      omega) (fun x hx h => by
      have h1 := (O18.out.lt j hj).1
      have h2 := (MX4.out.lt x hx j h).2
      omega)))
  have O09 : Hid (w9.ownsRow w2.heap.size 3 1 (.slice q0 R.length d0) R.length (intV R)) := Lib.hid (owns_blk O08.out (fun j hj => b9.block j (O03.out.lt j hj).2))
  have HB9 : Hid (Below w.heap.size w w9) := Lib.hid (HB8.out.trans (b9.mono z3))
  have y9 : w8.heap.size ≤ w9.heap.size := b9.size
  have z9 := HB9.out.size
  have hd9 : decide (((mkN 1 X1 : Nat) : Int) < 0) = false := decide_eq_false (by omega)
  clear b9 k9
  go_wp2_with fail
  refine (l_eqInts q1 q0 d1 d0 R _ (readI_of O19.out) (readI_of O09.out) (by omega)).mono ?_
  rintro e w10 ⟨rfl, b10⟩
  have O1a := Lib.hid (owns3_below O19.out b10)
  have O0a := Lib.hid (owns3_below O09.out b10)
  have HB10 : Hid (Below w.heap.size w w10) := Lib.hid (HB9.out.trans (b10.mono z9))
  have y10 := b10.size
  have z10 := HB10.out.size
  clear b10
  go_wp2_with fail
  refine (l_markInts q1 d1 R 1 w4.heap.size _ O1a.out (by omega) (by omega) (by omega)).mono ?_
  rintro e w11 ⟨rfl, O1b, g11⟩
  have hlk : (mki 1 R.length).length = R.length := mki_length _ _
  have RR : Hid (ReadI w11 q1 (mki 1 R.length)) := Lib.hid (readI_of (l := mki 1 R.length) (by rw [hlk]; exact O1b))
  have O0b : Hid (w11.ownsRow w2.heap.size 3 1 (.slice q0 R.length d0) R.length (intV R)) := Lib.hid (owns_blk O0a.out (fun j hj => g11.block j (by have := (O0a.out.lt j hj).2; exact this) (fun e => by
      have h1 := (O03.out.lt j hj).2
      have h2 := (O15.out.lt j e.symm).1
      omega)))
  have HB11 : Hid (Below w.heap.size w w11) := Lib.hid (HB10.out.grown g11 z10 (fun j hj => by have := (O15.out.lt j hj).1; omega))
  have y11 := g11.size
  have z11 := HB11.out.size
  clear O1b g11 hlk
  have hdr : decide (((1 + R.length : Nat) : Int) < 0) = false := decide_eq_false (by omega)
  go_wp2_with fail
  refine (l_heldInts q1 d1 R.length 1 _ RR.out (by omega) (by omega)).mono ?_
  rintro e w12 ⟨rfl, rfl⟩
  have O0c := O0b
  have RRc := RR
  have HB12 := HB11
  have z12 := z11
  go_wp2_with fail
  refine (TL.out _ HB12.out).mono ?_
  rintro e w13 ⟨v3, X3, rfl, OX3, MX3, p3, b13⟩
  obtain ⟨a3, c3, rfl⟩ := slice_shape OX3
  have S3 := Lib.hid (SI.out X3 p3 a3 c3 w13 (own_cap OX3) (readL_of OX3 MX3.all))
  have O0d := Lib.hid (owns3_below O0c.out b13)
  have RRd := Lib.hid (RRc.out.below b13)
  have HB13 : Hid (Below w.heap.size w w13) := Lib.hid (HB12.out.trans (b13.mono z12))
  have z13 := HB13.out.size
  clear b13 OX3 MX3 p3
  go_wp2_with fail
  refine S3.out.mono ?_
  rintro e w14 ⟨v3, rfl, O3, b14⟩
  obtain ⟨q3, d3, rfl⟩ := owns3_shape O3
  have O0e := Lib.hid (owns3_below O0d.out b14)
  have RRe := Lib.hid (RRd.out.below b14)
  have O34 := Lib.hid O3
  have HB14 : Hid (Below w.heap.size w w14) := Lib.hid (HB13.out.trans (b14.mono z13))
  have z14 := HB14.out.size
  clear b14 O3 S3
  go_wp2_with fail
  refine (l_eqInts q3 q0 d3 d0 R _ (readI_of O34.out) (readI_of O0e.out) (by omega)).mono ?_
  rintro e w15 ⟨rfl, b15⟩
  have RRf := Lib.hid (RRe.out.below b15)
  have HB15 : Hid (Below w.heap.size w w15) := Lib.hid (HB14.out.trans (b15.mono z14))
  have z15 := HB15.out.size
  clear b15
  go_wp2_with fail
  refine (l_heldInts q1 d1 R.length 1 _ RRf.out (by omega) (by omega)).mono ?_
  rintro e w16 ⟨rfl, rfl⟩
  have HB16 := HB15
  go_wp2
  go_ret
  exact ⟨rfl, HB16.out⟩
end Go.Proofs.Ythmllcpldgbbcaa.fnExactFunctionLines
