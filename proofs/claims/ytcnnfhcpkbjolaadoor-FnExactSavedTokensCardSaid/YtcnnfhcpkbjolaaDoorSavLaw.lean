/- The walk of the law on SavedTokens. -/
import Derived.Test.YtcnnfhcpkbjolaaDoorSavBoth
import Derived.Test.YtcnnfhcpkbjolaaDoorLineL
import Derived.Test.YtcnnfhcpkbjolaaDoorLineE
namespace Go.Proofs.YtcnnfhcpkbjolaaDoor.fnExactSavedTokens
open Go.RowKit Go.Lib

theorem small_pl {X : List LnL} {l : List ALine} (h : plL X = psA l) (hs : ∀ x ∈ l, SmallL x.p) : ∀ x ∈ X, SmallL x.p := by
  intro x hx
  have hm : x.p ∈ psA l := by rw [← h]; exact List.mem_map_of_mem hx
  obtain ⟨y, hy, e⟩ := List.mem_map.1 hm
  rw [← e]
  exact hs y hy
theorem len_pl {X : List LnL} {l : List ALine} (h : plL X = psA l) : X.length = l.length := by have := congrArg List.length h; simpa [plL, psA] using this

set_option maxRecDepth 100000 in
set_option maxHeartbeats 4000000 in
theorem walk (a : Option Addr) (cap : Nat) (l : List ALine) (w : World) (hm : l.length ≤ maxLen) (ha : ArgLs w a l) (hL : laidMet Tryd.prog Rows.fnExactSavedTokensRow.laid w) :
    Calls Tryd.prog 5 #[.slice a l.length cap] w fun e w' => e = .returned (.bool true) ∧ Below w.heap.size w w' := by
  have HSH := Lib.hid (shapes_head hL)
  clear hL
  have HA := Lib.hid ha
  clear ha
  go_enter Tryd.func5, Tryd.ntmps5
  go_wp2_with fail
  refine (l_szLineS a cap l 1048576 _ hm HA.out (by omega) (by omega)).mono ?_
  rintro e w1 ⟨r, rfl, b1, hr⟩
  have HB1 := Lib.hid b1
  clear b1
  rcases hr with rfl | ⟨hr0, hle, hsm⟩
  · go_wp2
    go_ret
    exact ⟨rfl, HB1.out⟩
  have hl : l.length ≤ 1048576 := by omega
  have hd : decide (r < 0) = false := by simp; omega
  have HSM := Lib.hid hsm
  clear hsm
  have TL := Lib.hid (fun (W : World) (hb : Below w.heap.size w W) => l_toLineS a cap l W hl (HA.out.below hb) HSM.out)
  obtain ⟨ps, hps⟩ : ∃ ps, psA l = ps := ⟨_, rfl⟩
  rw [hps] at TL
  have HPS := Lib.hid hps
  clear hps
  obtain ⟨res, hres⟩ : ∃ x, savZ ps = x := ⟨_, rfl⟩
  have HRES := Lib.hid hres
  clear hres
  go_wp2_with fail
  refine (TL.out _ HB1.out).mono ?_
  rintro e w2 ⟨v0, X0, rfl, O0, A0, p0, b2⟩
  obtain ⟨a0, c0, rfl⟩ := slice_shape O0
  have HSZ : Hid (X0.length = l.length) := Lib.hid (len_pl (p0.trans HPS.out.symm))
  have HL0 : X0.length ≤ 1048576 := by have := HSZ.out; omega
  have hsp0 := small_pl (p0.trans HPS.out.symm) HSM.out
  have SS := Lib.hid (fun (W : World) h => s_saved a0 c0 X0 W HL0 h hsp0)
  rw [p0, HRES.out] at SS
  have R0 := Lib.hid (readL_of O0 A0.all)
  have z1 := HB1.out.size
  have HB2 : Hid (Below w.heap.size w w2) := Lib.hid (HB1.out.trans (b2.mono z1))
  have z2 := HB2.out.size
  clear b2 O0 A0 p0 hsp0
  go_wp2_with fail
  refine (SS.out _ R0.out).mono ?_
  rintro e w3 ⟨rfl, b3⟩
  have HB3 : Hid (Below w.heap.size w w3) := Lib.hid (HB2.out.trans (b3.mono z2))
  have z3 := HB3.out.size
  clear b3 R0 SS
  go_wp2_with fail
  refine (TL.out _ HB3.out).mono ?_
  rintro e w4 ⟨v1, X1, rfl, O1, A1, p1, b4⟩
  obtain ⟨a1, c1, rfl⟩ := slice_shape O1
  have HSZ1 : Hid (X1.length = l.length) := Lib.hid (len_pl (p1.trans HPS.out.symm))
  have HL1 : X1.length ≤ 1048576 := by have := HSZ1.out; omega
  have hsp1 := small_pl (p1.trans HPS.out.symm) HSM.out
  have SI := Lib.hid (fun (W : World) (hb : Below w.heap.size w W) h => i_saved a1 c1 X1 W HL1 (own_cap4 O1) h hsp1 (HSH.out.on hb))
  have P1 := Lib.hid p1
  rw [p1, HRES.out] at SI
  have R1 := Lib.hid (readL_of O1 A1.all)
  have HB4 : Hid (Below w.heap.size w w4) := Lib.hid (HB3.out.trans (b4.mono z3))
  have z4 := HB4.out.size
  clear b4 O1 A1 p1 hsp1
  go_wp2_with fail
  refine (SI.out _ HB4.out R1.out).mono ?_
  rintro e w5 ⟨rfl, b5⟩
  have R15 := Lib.hid (R1.out.below b5)
  have HB5 : Hid (Below w.heap.size w w5) := Lib.hid (HB4.out.trans (b5.mono z4))
  have z5 := HB5.out.size
  clear b5 SI R1
  go_wp2_with fail
  refine (TL.out _ HB5.out).mono ?_
  rintro e w6 ⟨v2, X2, rfl, O2, A2, p2, b6⟩
  obtain ⟨a2, c2, rfl⟩ := slice_shape O2
  have R2 := Lib.hid (readL_of O2 A2.all)
  have R16 := Lib.hid (R15.out.below b6)
  have EQ := Lib.hid (fun (W : World) h1 h2 => l_eqLineS a1 a2 c1 c2 X1 X2 W h1 h2 (P1.out.trans p2.symm) HL1 (fun x hx => by have := small_pl (P1.out.trans HPS.out.symm) HSM.out x hx; exact ⟨this.2.1, this.2.2.2.1⟩))
  have HB6 : Hid (Below w.heap.size w w6) := Lib.hid (HB5.out.trans (b6.mono z5))
  have z6 := HB6.out.size
  clear b6 O2 A2 p2
  go_wp2_with fail
  refine (EQ.out _ R16.out R2.out).mono ?_
  rintro e w7 ⟨rfl, b7⟩
  have HB7 : Hid (Below w.heap.size w w7) := Lib.hid (HB6.out.trans (b7.mono z6))
  clear b7
  go_wp2
  go_ret
  exact ⟨rfl, HB7.out⟩
end Go.Proofs.YtcnnfhcpkbjolaaDoor.fnExactSavedTokens
