/- The laws' heldLineS: the marks are there still; The law on ParseProgram, walked. -/
import Derived.Test.YthmllcpldgbbcaaGreatDoorHeldStrs
import Derived.Test.YthmllcpldgbbcaaGreatDoorHeldToks
import Derived.Test.YthmllcpldgbbcaaGreatDoorPlainC
import Derived.Test.YthmllcpldgbbcaaGreatDoorPprImpl
import Derived.Test.YthmllcpldgbbcaaGreatDoorPpSpec
import Derived.Test.YthmllcpldgbbcaaGreatDoorLinesEq
import Derived.Test.YthmllcpldgbbcaaGreatDoorMarkLines
import Derived.Deep.RegionHeld3
import Derived.Deep.Cut
/-! The laws' heldLineS: the marks are there still -/
namespace Go.Proofs.YthmllcpldgbbcaaGreatDoor
open Go.RowKit Go.Lib

theorem mkN_small (X : List LnL) (k : Nat) (h : k < X.length) (hN : mkN 1 X ≤ 4000000) : mkN 1 (X.take k) + 2 + X[k].args.length + 3 * X[k].expr.length ≤ 4000000 := by
  have h1 := mkN_take 1 X k h
  have h2 : mkN 1 X = mkN (mkN 1 (X.take (k + 1))) (X.drop (k + 1)) := by
    have := List.take_append_drop (k + 1) X
    unfold mkN
    conv => lhs; rw [← this, List.foldl_append]
  have h3 := mkN_ge (X.drop (k + 1)) (mkN 1 (X.take (k + 1)))
  unfold nxt at h1
  omega

set_option maxRecDepth 100000 in
set_option maxHeartbeats 4000000 in
theorem l_heldLineS (a : Option Addr) (c : Nat) (X : List LnL) (w : World) (hr : ReadL 9 66 w a (mkX 1 X)) (hl : X.length ≤ 1048576) (hz : ∀ x ∈ X, x.args.length ≤ 1048576 ∧ x.expr.length ≤ 1048576) (hN : mkN 1 X ≤ 4000000) :
    Calls Tryz.prog 17 #[.slice a X.length c, .int .i64 1] w fun e w' => e = .returned (.int .i64 ((mkN 1 X : Nat) : Int)) ∧ Below w.heap.size w w' := by
  have HR := Lib.hid hr
  have HZ := Lib.hid hz
  have HN := Lib.hid hN
  clear hr hz hN
  go_enter Tryz.func17, Tryz.ntmps17
  go_wp2_with fail
  go_loopw [1, 5] (fun x i wr => ∃ (k m : Nat), k ≤ X.length ∧ Hid (mkN 1 (X.take k) = m) ∧ i = .int .i64 (k : Int) ∧ x = .int .i64 (m : Int) ∧ Below w.heap.size w wr) (fun _ i _ => X.length - (RowKit.intOf i).toNat)
  case atStart => exact ⟨0, 1, Nat.zero_le _, Lib.hid rfl, rfl, rfl, Below.refl _ _⟩
  case round =>
    obtain ⟨k, m, hk, HM, rfl, rfl, hbel⟩ := hrel
    have HB := Lib.hid hbel
    have hB := hbel.size
    by_cases hlt : k < X.length
    · obtain ⟨hlt', hget⟩ := mkX_get X 1 k hlt
      rw [HM.out] at hget
      obtain ⟨g, rfl, hg, ⟨c0, c1, c2, c3⟩, hm⟩ := (HR.out.below hbel) k hlt'
      rw [hget] at c0 c1 c2 c3 hm
      have hsm := mkN_small X k hlt HN.out
      rw [HM.out] at hsm
      have hzz := HZ.out _ (List.getElem_mem hlt)
      have hm0 : 0 < m := by have := mkN_ge (X.take k) 1; rw [HM.out] at this; omega
      have HNX : Hid (mkN 1 (X.take (k + 1)) = m + 2 + X[k].args.length + 3 * X[k].expr.length) := Lib.hid (by rw [mkN_take 1 X k hlt, HM.out]; rfl)
      obtain ⟨xa, xb, xc, xd, ea, ee, rs, rt, _, _⟩ := inMem_shape hm
      obtain ⟨x, hx⟩ : ∃ x, X[k] = x := ⟨_, rfl⟩
      rw [hx] at c0 c1 c2 c3 ea ee rs rt hsm hzz HNX
      rw [ea] at c2
      rw [ee] at c3
      have el : (mk1 m x).args.length = x.args.length := mks_length _ _
      have ml : (mk1 m x).expr.length = x.expr.length := mkTs_length _ _
      rw [el] at c2
      rw [ml] at c3
      have HT := Lib.hid (fun W (n : Int) (hn : n = ((m + 1 : Nat) : Int)) => l_mark n (m + 1) W hn (by omega) (by omega))
      have d0 : wr.cell? ⟨g, k * 4, none⟩ = some (.int .i64 (m : Int)) := c0
      have d1 : wr.cell? ⟨g, k * 4 + 1, none⟩ = some (.string (mkT (m + 1))) := c1
      obtain ⟨s, hs⟩ : ∃ s, mkT (m + 1) = s := ⟨_, rfl⟩
      rw [hs] at HT d1
      have HRS : Hid (∀ (W : World) (hb : Below wr.heap.size wr W) (n : Int) (hn : n = ((m + 2 : Nat) : Int)), Calls Tryz.prog 39 #[.slice xa x.args.length xc, .int .i64 n] W fun e w' => e = .returned (.int .i64 ((m + 2 + x.args.length : Nat) : Int)) ∧ Below W.heap.size W w') := Lib.hid (fun W hb n hn => hn ▸ l_heldStrs xa xc x.args.length (m + 2) W (by have := rs.below hb; exact this) (by omega) (by omega) (by omega))
      have HRT : Hid (∀ (W : World) (hb : Below wr.heap.size wr W), Calls Tryz.prog 40 #[.slice xb x.expr.length xd, .int .i64 ((m + 2 + x.args.length : Nat) : Int)] W fun e w' => e = .returned (.int .i64 ((m + 2 + x.args.length + 3 * x.expr.length : Nat) : Int)) ∧ Below W.heap.size W w') := Lib.hid (fun W hb => l_heldToks xb xd x.expr.length (m + 2 + x.args.length) W (by have := rt.below hb; exact this) (by omega) (by omega) (by omega))
      have HC2 := Lib.hid c2
      have HC3 := Lib.hid c3
      have k0 : (0 : Int) ≤ (k : Int) := by omega
      have k1 : (k : Int) < (X.length : Int) := by omega
      generalize x.args.length = na at *
      generalize x.expr.length = ne at *
      clear hs hx c0 c1 c2 c3 ea ee rs rt hm hget hlt' el ml hbel
      go_wp2_with fail
      go_region_held3 (fun w' => w'.cell? ⟨g, k * 4 + 1, none⟩ = some (.string s)) (first | go_keep | (rw [b1.cell hg]; exact d1)) (first
        | (go_at_call 36; refine (HT.out _ _ (by omega)).mono ?_; rintro e w1 ⟨rfl, b1⟩))
      all_goals
        have HB1 : Hid (Below wr.heap.size wr w1) := Lib.hid (undrew b1)
        have z1 := HB1.out.size
        have e2 : w1.cell? ⟨g, k * 4 + 2, none⟩ = some (.slice xa na xc) := (HB1.out.cell (p := ⟨g, _, none⟩) hg).trans HC2.out
        clear b1 d0 d1
        go_wp2_with fail
        refine (HRS.out _ HB1.out _ (by omega)).mono ?_
        rintro e w2 ⟨rfl, b2⟩
        have HB2 : Hid (Below wr.heap.size wr w2) := Lib.hid (HB1.out.trans (b2.mono z1))
        have z2 := HB2.out.size
        have e3 : w2.cell? ⟨g, k * 4 + 3, none⟩ = some (.slice xb ne xd) := (HB2.out.cell (p := ⟨g, _, none⟩) hg).trans HC3.out
        have hd : decide (((m + 2 + na : Nat) : Int) < 0) = false := decide_eq_false (by omega)
        clear b2 e2
        go_wp2_with fail
        refine (HRT.out _ HB2.out).mono ?_
        rintro e w3 ⟨rfl, b3⟩
        have HB3 : Hid (Below w.heap.size w w3) := Lib.hid (HB.out.trans ((HB2.out.trans (b3.mono z2)).mono hB))
        have hd : decide (((m + 2 + na + 3 * ne : Nat) : Int) < 0) = false := decide_eq_false (by omega)
        clear b3 e3
        go_wp2
        go_roundw
        case rel => exact ⟨k + 1, m + 2 + na + 3 * ne, by omega, HNX, by go_num, by go_num, HB3.out⟩
        case measure => simp [RowKit.intOf]; omega
    · have hkk : k = X.length := by omega
      have HV : Hid (mkN 1 X = m) := Lib.hid (by have := HM.out; rw [hkk, List.take_length] at this; exact this)
      subst hkk
      clear hbel
      go_wp2
      go_ret
      exact ⟨by rw [HV.out]; rfl, HB.out⟩
end Go.Proofs.YthmllcpldgbbcaaGreatDoor

/-! The law on ParseProgram, walked -/
namespace Go.Proofs.YthmllcpldgbbcaaGreatDoor.fnExactParseProgram
open Go.RowKit Go.Lib

theorem pp_small {X : List LnL} {q : List PLine} (h : plL X = q) (ho : q.all lineB = true) (hl : q.length ≤ 60) : X.length ≤ 60 ∧ (∀ x ∈ X, x.args.length ≤ 4 ∧ x.expr.length ≤ 20) ∧ mkN 1 X ≤ 4000000 := by
  have h1 : X.length ≤ 60 := by rw [← h, plL_length] at hl; exact hl
  have h2 : ∀ x ∈ X, x.args.length ≤ 4 ∧ x.expr.length ≤ 20 := fun x hx => by
    have hb : lineB x.p = true := by
      rw [← h] at ho
      exact List.all_eq_true.1 ho _ (List.mem_map_of_mem hx)
    exact ⟨line_args _ hb, (ef_small _ _ ((lineB_iff _).1 hb).2.2.2).1⟩
  refine ⟨h1, h2, ?_⟩
  have := mkN_le X 1 h2
  omega
theorem readX {B T TS TK : TypeId} {c n : Nat} {w : World} {a : Option Addr} {X : List LnL} (hn : X.length = n) (h : w.ownsRow B T 4 (.slice a n c) n (lnsV X)) (hA : AllIn TS TK w X) : ReadL TS TK w a X := by
  subst hn
  exact readL_of h hA

set_option maxRecDepth 100000 in
set_option maxHeartbeats 4000000 in
theorem walk0 (s : ByteArray) (p : Addr) (w : World) (hm : s.size ≤ maxLen) (hE : Env w) (hT : Table w) (hS : Shapes w) (hN : NoL p w) :
    Calls Tryz.prog 4 #[.string s] w fun e w' => e = .returned (.bool true) ∧ Below w.heap.size w w' := by
  by_cases hlong : 1048576 < s.size
  · have hd : decide (1048576 < (s.size : Int)) = true := decide_eq_true (by omega)
    unfold maxLen at hm
    go_enter Tryz.func4, Tryz.ntmps4
    go_wp2
    go_ret
    exact ⟨rfl, Below.refl _ _⟩
  have hd : decide (1048576 < (s.size : Int)) = false := decide_eq_false (by omega)
  have S := Lib.hid (fun W => s_pprog s W (by omega))
  have I := Lib.hid (fun (W : World) (hb : Below w.heap.size w W) => i_pprog s p W (by omega) (hE.on hb) (hT.on hb) (hS.on hb) (hN.on hb))
  have hok := Lib.hid (ppZ_ok s)
  have hln := Lib.hid (ppZ_len s)
  obtain ⟨r, hr⟩ : ∃ r, ppZ s = r := ⟨_, rfl⟩
  rw [hr] at S I hok hln
  clear hE hT hS hN hr
  obtain ⟨q, ok⟩ := r
  dsimp only at hok hln
  unfold maxLen at hm
  go_enter Tryz.func4, Tryz.ntmps4
  go_wp2_with fail
  refine (S.out _).mono ?_
  rintro e w1 ⟨v0, X0, rfl, p0, O0, M0, b1⟩
  obtain ⟨a0, c0, rfl⟩ := owns3_shape O0
  dsimp only at p0 ⊢
  have R0 := Lib.hid (readL_of O0 M0.all)
  have P0 := Lib.hid p0
  have HB1 := Lib.hid b1
  have z1 := b1.size
  clear O0 M0 b1 p0
  go_wp2_with fail
  refine (I.out _ HB1.out).mono ?_
  rintro e w3 ⟨v1, X1, rfl, p1, O1, M1, b3⟩
  obtain ⟨a1, c1, rfl⟩ := owns3_shape O1
  dsimp only at p1 ⊢
  obtain ⟨h60, hsm, hN⟩ := pp_small p1 hok.out hln.out
  have P1 := Lib.hid p1
  have HSM := Lib.hid hsm
  have HNN := Lib.hid hN
  have R1 := Lib.hid (readL_of O1 M1.all)
  have HO1 := Lib.hid O1
  have HM1 := Lib.hid M1
  have HB3 : Hid (Below w.heap.size w w3) := Lib.hid (HB1.out.trans (b3.mono z1))
  have HC3 : Hid (Below w1.heap.size w1 w3) := Lib.hid b3
  have R03 := Lib.hid (R0.out.below b3)
  have z3 := b3.size
  have EQ := Lib.hid (fun (W : World) h1 h2 => l_eqLineS a1 a0 c1 c0 X1 X0 W h1 h2 (P1.out.trans P0.out.symm) (by omega) (fun x hx => by have := HSM.out x hx; omega))
  clear O1 M1 b3 p1 hsm hN hd
  go_wp2_with fail
  refine (EQ.out _ R1.out R03.out).mono ?_
  rintro e w5 ⟨rfl, b5⟩
  have HO5 := Lib.hid (owns3_below HO1.out b5)
  have HM5 := Lib.hid (HM1.out.below b5)
  have z5 := b5.size
  have HB5 : Hid (Below w.heap.size w w5) := Lib.hid (HB3.out.trans (b5.mono (by omega)))
  have HC5 : Hid (Below w1.heap.size w1 w5) := Lib.hid (HC3.out.trans (b5.mono z3))
  clear b5 EQ
  cases ok
  all_goals
    go_wp2_with fail
    refine (l_markLineS a1 c1 X1 w1.heap.size _ HO5.out HM5.out (by omega) (by omega) (fun x hx => by have := HSM.out x hx; omega) HNN.out).mono ?_
    rintro e w6 ⟨rfl, O6, M6, b6⟩
    have z6 := b6.size
    have R6 : Hid (ReadL 9 66 w6 a1 (mkX 1 X1)) := Lib.hid (readX (mkX_length X1 1) O6 M6.all)
    have HB6 : Hid (Below w.heap.size w w6) := Lib.hid (HB5.out.trans (b6.mono z1))
    have HC6 : Hid (Below w1.heap.size w1 w6) := Lib.hid (HC5.out.trans b6)
    have HH := Lib.hid (fun (W : World) h => l_heldLineS a1 c1 X1 W h (by omega) (fun x hx => by have := HSM.out x hx; omega) HNN.out)
    clear O6 M6 b6
    have hd : decide (((mkN 1 X1 : Nat) : Int) < 0) = false := decide_eq_false (by omega)
    go_wp2_with fail
    refine (HH.out _ R6.out).mono ?_
    rintro e w7 ⟨rfl, b7⟩
    have z7 := b7.size
    have R7 := Lib.hid (R6.out.below b7)
    have HB7 : Hid (Below w.heap.size w w7) := Lib.hid (HB6.out.trans (b7.mono (by omega)))
    have HC7 : Hid (Below w1.heap.size w1 w7) := Lib.hid (HC6.out.trans (b7.mono (by omega)))
    clear b7
    go_wp2_with fail
    refine (I.out _ HB7.out).mono ?_
    rintro e w8 ⟨v2, X2, rfl, p2, O2, M2, b8⟩
    obtain ⟨a2, c2, rfl⟩ := owns3_shape O2
    dsimp only at p2 ⊢
    have z8 := b8.size
    have hx2 := (pp_small p2 hok.out hln.out).1
    have hs2 := Lib.hid (pp_small p2 hok.out hln.out).2.1
    have R2 := Lib.hid (readL_of O2 M2.all)
    have P2 := Lib.hid p2
    have R8 := Lib.hid (R7.out.below b8)
    have HB8 : Hid (Below w.heap.size w w8) := Lib.hid (HB7.out.trans (b8.mono (by omega)))
    have HC8 : Hid (Below w1.heap.size w1 w8) := Lib.hid (HC7.out.trans (b8.mono (by omega)))
    have R08 := Lib.hid (R0.out.below HC8.out)
    have EQ := Lib.hid (fun (W : World) h1 h2 => l_eqLineS a2 a0 c2 c0 X2 X0 W h1 h2 (P2.out.trans P0.out.symm) (by omega) (fun x hx => by have := hs2.out x hx; omega))
    clear O2 M2 b8 p2
    go_wp2_with fail
    refine (EQ.out _ R2.out R08.out).mono ?_
    rintro e w10 ⟨rfl, b10⟩
    have z10 := b10.size
    have R10 := Lib.hid (R8.out.below b10)
    have HB10 : Hid (Below w.heap.size w w10) := Lib.hid (HB8.out.trans (b10.mono (by omega)))
    clear b10 EQ
    go_wp2_with fail
    refine (HH.out _ R10.out).mono ?_
    rintro e w11 ⟨rfl, b11⟩
    have HB11 : Hid (Below w.heap.size w w11) := Lib.hid (HB10.out.trans (b11.mono (by omega)))
    clear b11
    go_wp2
    go_ret
    exact ⟨rfl, HB11.out⟩
end Go.Proofs.YthmllcpldgbbcaaGreatDoor.fnExactParseProgram
