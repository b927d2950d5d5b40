/- Plain facts: The laws' heldStringS; The laws' heldTokS: the marks are there still; The laws' heldLineS: the marks are there still. Nothing of the program. -/
import Derived.Test.YtcnnfhcpkbjolaaDoorMarkL
import Derived.Test.YtcnnfhcpkbjolaaDoorPlainR
import Derived.Test.YtcnnfhcpkbjolaaDoorLineE
import Derived.Deep.RegionHeld3
import Derived.Deep.Cut
/-! The laws' heldStringS -/
namespace Go.Proofs.YtcnnfhcpkbjolaaDoor
open Go.RowKit Go.Lib

set_option maxHeartbeats 2000000 in
theorem l_heldStrs (a : Option Addr) (c n : Nat) (m : Nat) (w : World) (hr : ReadS w a (mks m n)) (hl : n ≤ 1048576) (h0 : 0 < m) (h1 : m ≤ 5000000) :
    Calls Tryd.prog 44 #[.slice a n c, .int .i64 (m : Int)] w fun e w' => e = .returned (.int .i64 ((m + n : Nat) : Int)) ∧ Below w.heap.size w w' := by
  have HR := Lib.hid hr
  clear hr
  go_enter Tryd.func44, Tryd.ntmps44
  go_wp2_with fail
  go_loopw [1, 5] (fun x i wr => ∃ k : Nat, k ≤ n ∧ i = .int .i64 (k : Int) ∧ x = .int .i64 ((m + k : Nat) : Int) ∧ Below w.heap.size w wr) (fun _ i _ => n - (intOf i).toNat)
  case atStart => exact ⟨0, Nat.zero_le _, rfl, rfl, Below.refl _ _⟩
  case round =>
    obtain ⟨k, hk, rfl, rfl, hbel⟩ := hrel
    have HB := Lib.hid hbel
    have hsz := hbel.size
    by_cases hlt : k < n
    · obtain ⟨g, rfl, c1⟩ := HR.out k (by rw [mks_length]; exact hlt)
      have hgl := World.block_lt_of_cell? w _ c1
      dsimp only at hgl
      have hx : (mks m n)[k]'(by rw [mks_length]; exact hlt) = mkT (m + k) := by simp [mks]
      rw [hx] at c1
      have cw : wr.cell? ⟨g, k, none⟩ = some (.string (mkT (m + k))) := by rw [hbel.cell hgl]; exact c1
      have hgl' : g < wr.heap.size := by omega
      have k0 : (0 : Int) ≤ (k : Int) := by omega
      have k1 : (k : Int) < (n : Int) := by omega
      have HM : Hid (∀ W : World, Calls Tryd.prog 41 #[.int .i64 ((m : Int) + (k : Int))] W fun e w' => e = .returned (.string (mkT (m + k))) ∧ Below W.heap.size W w') := Lib.hid (fun W => l_mark _ (m + k) W (by omega) (by omega) (by omega))
      clear hx c1 hbel
      generalize mkT (m + k) = x at cw HM
      go_wp2_with fail
      go_region_held3 (fun w' => w'.cell? ⟨g, k, none⟩ = some (.string x)) (first | go_keep | (rw [b1.cell hgl']; exact cw)) (first
        | (go_at_call 41; refine (HM.out _).mono ?_; rintro e w1 ⟨rfl, b1⟩))
      all_goals
        have HB1 := Lib.hid (HB.out.drew.trans (b1.mono hsz))
        clear b1
        go_wp2
        go_roundw
        case rel => exact ⟨k + 1, by omega, by go_num, by go_num, HB1.out⟩
        case measure => simp [intOf]; omega
    · have hkk : k = n := by omega
      subst hkk
      go_wp2
      go_ret
      exact ⟨rfl, HB.out⟩
end Go.Proofs.YtcnnfhcpkbjolaaDoor

/-! The laws' heldTokS: the marks are there still -/
namespace Go.Proofs.YtcnnfhcpkbjolaaDoor
open Go.RowKit Go.Lib

set_option maxHeartbeats 1000000 in
theorem l_heldToks (a : Option Addr) (c n : Nat) (m : Nat) (w : World) (hr : ReadT w a (mkTs m n)) (hl : n ≤ 1048576) (h0 : 0 < m) (h1 : m ≤ 5000000) :
    Calls Tryd.prog 45 #[.slice a n c, .int .i64 (m : Int)] w fun e w' => e = .returned (.int .i64 ((m + 3 * n : Nat) : Int)) ∧ Below w.heap.size w w' := by
  have HR := Lib.hid hr
  clear hr
  go_enter Tryd.func45, Tryd.ntmps45
  go_wp2_with fail
  go_loopw [1, 5] (fun x i wr => ∃ k : Nat, k ≤ n ∧ i = .int .i64 (k : Int) ∧ x = .int .i64 ((m + 3 * k : Nat) : Int) ∧ Below w.heap.size w wr) (fun _ i _ => n - (intOf i).toNat)
  case atStart => exact ⟨0, Nat.zero_le _, rfl, rfl, Below.refl _ _⟩
  case round =>
    obtain ⟨k, hk, rfl, rfl, hbel⟩ := hrel
    have HB := Lib.hid hbel
    have hsz := hbel.size
    by_cases hlt : k < n
    · obtain ⟨g, rfl, hg, c0, c1, c2⟩ := HR.out k (by rw [mkTs_length]; exact hlt)
      rw [mkTs_get] at c0 c1 c2
      simp only [mkTok] at c0 c1 c2
      rw [show ((m + 3 * k : Nat) : Int) = (m : Int) + 3 * (k : Int) from by omega] at c0
      rw [show ((m + 3 * k + 1 : Nat) : Int) = (m : Int) + 3 * (k : Int) + 1 from by omega] at c1
      have d0 := (hbel.cell (p := ⟨g, k * 3, none⟩) hg).trans c0
      have d1 := (hbel.cell (p := ⟨g, k * 3 + 1, none⟩) hg).trans c1
      have d2 := (hbel.cell (p := ⟨g, k * 3 + 2, none⟩) hg).trans c2
      have hgl' : g < wr.heap.size := by omega
      have k0 : (0 : Int) ≤ (k : Int) := by omega
      have k1 : (k : Int) < (n : Int) := by omega
      have HM : Hid (∀ (W : World) (x : Int), x = (m : Int) + 3 * (k : Int) + 2 → Calls Tryd.prog 41 #[.int .i64 x] W fun e w' => e = .returned (.string (mkT (m + 3 * k + 2))) ∧ Below W.heap.size W w') := Lib.hid (fun W x hx => l_mark x (m + 3 * k + 2) W (by omega) (by omega) (by omega))
      clear c0 c1 c2 hbel
      obtain ⟨s, hs⟩ : ∃ s, mkT (m + 3 * k + 2) = s := ⟨_, rfl⟩
      rw [hs] at d2 HM
      clear hs
      go_wp2_with fail
      go_region_held3 (fun w' => w'.cell? ⟨g, k * 3 + 2, none⟩ = some (.string s)) (first | go_keep | (rw [b1.cell hgl']; exact d2)) (first
        | (go_at_call 41; refine (HM.out _ _ (by omega)).mono ?_; rintro e w1 ⟨rfl, b1⟩))
      all_goals
        have HB1 := Lib.hid (HB.out.drew.trans (b1.mono hsz))
        clear b1
        go_wp2
        go_roundw
        case rel => exact ⟨k + 1, by omega, by go_num, by go_num, HB1.out⟩
        case measure => simp [intOf]; omega
    · have hkk : k = n := by omega
      subst hkk
      go_wp2
      go_ret
      exact ⟨rfl, HB.out⟩
end Go.Proofs.YtcnnfhcpkbjolaaDoor

/-! The laws' heldLineS: the marks are there still -/
namespace Go.Proofs.YtcnnfhcpkbjolaaDoor
open Go.RowKit Go.Lib

theorem mkN_small (X : List LnL) (k : Nat) (h : k < X.length) (hN : mkN 1 X ≤ 4000000) : mkN 1 (X.take k) + 2 + X[k].args.length + 3 * X[k].expr.length ≤ 4000000 := by
  have h1 := mkN_take 1 X k h
  have h2 : mkN 1 X = mkN (mkN 1 (X.take (k + 1))) (X.drop (k + 1)) := by
    have := List.take_append_drop (k + 1) X
    unfold mkN
    conv => lhs; rw [← this, List.foldl_append]
  have h3 := mkN_ge (X.drop (k + 1)) (mkN 1 (X.take (k + 1)))
  unfold nxt at h1
  omega

set_option maxRecDepth 100000 in
set_option maxHeartbeats 4000000 in
theorem l_heldLineS (a : Option Addr) (c : Nat) (X : List LnL) (w : World) (hr : ReadL 9 83 w a (mkX 1 X)) (hl : X.length ≤ 1048576) (hz : ∀ x ∈ X, x.args.length ≤ 1048576 ∧ x.expr.length ≤ 1048576) (hN : mkN 1 X ≤ 4000000) :
    Calls Tryd.prog 20 #[.slice a X.length c, .int .i64 1] w fun e w' => e = .returned (.int .i64 ((mkN 1 X : Nat) : Int)) ∧ Below w.heap.size w w' := by
  have HR := Lib.hid hr
  have HZ := Lib.hid hz
  have HN := Lib.hid hN
  clear hr hz hN
  go_enter Tryd.func20, Tryd.ntmps20
  go_wp2_with fail
  go_loopw [1, 5] (fun x i wr => ∃ (k m : Nat), k ≤ X.length ∧ Hid (mkN 1 (X.take k) = m) ∧ i = .int .i64 (k : Int) ∧ x = .int .i64 (m : Int) ∧ Below w.heap.size w wr) (fun _ i _ => X.length - (RowKit.intOf i).toNat)
  case atStart => exact ⟨0, 1, Nat.zero_le _, Lib.hid rfl, rfl, rfl, Below.refl _ _⟩
  case round =>
    obtain ⟨k, m, hk, HM, rfl, rfl, hbel⟩ := hrel
    have HB := Lib.hid hbel
    have hB := hbel.size
    by_cases hlt : k < X.length
    · obtain ⟨hlt', hget⟩ := mkX_get X 1 k hlt
      rw [HM.out] at hget
      obtain ⟨g, rfl, hg, ⟨c0, c1, c2, c3⟩, hm⟩ := (HR.out.below hbel) k hlt'
      rw [hget] at c0 c1 c2 c3 hm
      have hsm := mkN_small X k hlt HN.out
      rw [HM.out] at hsm
      have hzz := HZ.out _ (List.getElem_mem hlt)
      have hm0 : 0 < m := by have := mkN_ge (X.take k) 1; rw [HM.out] at this; omega
      have HNX : Hid (mkN 1 (X.take (k + 1)) = m + 2 + X[k].args.length + 3 * X[k].expr.length) := Lib.hid (by rw [mkN_take 1 X k hlt, HM.out]; rfl)
      obtain ⟨xa, xb, xc, xd, ea, ee, rs, rt, _, _⟩ := inMem_shape hm
      obtain ⟨x, hx⟩ : ∃ x, X[k] = x := ⟨_, rfl⟩
      rw [hx] at c0 c1 c2 c3 ea ee rs rt hsm hzz HNX
      rw [ea] at c2
      rw [ee] at c3
      have el : (mk1 m x).args.length = x.args.length := mks_length _ _
      have ml : (mk1 m x).expr.length = x.expr.length := mkTs_length _ _
      rw [el] at c2
      rw [ml] at c3
      have HT := Lib.hid (fun W (n : Int) (hn : n = ((m + 1 : Nat) : Int)) => l_mark n (m + 1) W hn (by omega) (by omega))
      have d0 : wr.cell? ⟨g, k * 4, none⟩ = some (.int .i64 (m : Int)) := c0
      have d1 : wr.cell? ⟨g, k * 4 + 1, none⟩ = some (.string (mkT (m + 1))) := c1
      obtain ⟨s, hs⟩ : ∃ s, mkT (m + 1) = s := ⟨_, rfl⟩
      rw [hs] at HT d1
      have HRS : Hid (∀ (W : World) (hb : Below wr.heap.size wr W) (n : Int) (hn : n = ((m + 2 : Nat) : Int)), Calls Tryd.prog 44 #[.slice xa x.args.length xc, .int .i64 n] W fun e w' => e = .returned (.int .i64 ((m + 2 + x.args.length : Nat) : Int)) ∧ Below W.heap.size W w') := Lib.hid (fun W hb n hn => hn ▸ l_heldStrs xa xc x.args.length (m + 2) W (by have := rs.below hb; exact this) (by omega) (by omega) (by omega))
      have HRT : Hid (∀ (W : World) (hb : Below wr.heap.size wr W), Calls Tryd.prog 45 #[.slice xb x.expr.length xd, .int .i64 ((m + 2 + x.args.length : Nat) : Int)] W fun e w' => e = .returned (.int .i64 ((m + 2 + x.args.length + 3 * x.expr.length : Nat) : Int)) ∧ Below W.heap.size W w') := Lib.hid (fun W hb => l_heldToks xb xd x.expr.length (m + 2 + x.args.length) W (by have := rt.below hb; exact this) (by omega) (by omega) (by omega))
      have HC2 := Lib.hid c2
      have HC3 := Lib.hid c3
      have k0 : (0 : Int) ≤ (k : Int) := by omega
      have k1 : (k : Int) < (X.length : Int) := by omega
      generalize x.args.length = na at *
      generalize x.expr.length = ne at *
      clear hs hx c0 c1 c2 c3 ea ee rs rt hm hget hlt' el ml hbel
      go_wp2_with fail
      go_region_held3 (fun w' => w'.cell? ⟨g, k * 4 + 1, none⟩ = some (.string s)) (first | go_keep | (rw [b1.cell hg]; exact d1)) (first
        | (go_at_call 41; refine (HT.out _ _ (by omega)).mono ?_; rintro e w1 ⟨rfl, b1⟩))
      all_goals
        have HB1 : Hid (Below wr.heap.size wr w1) := Lib.hid (undrew b1)
        have z1 := HB1.out.size
        have e2 : w1.cell? ⟨g, k * 4 + 2, none⟩ = some (.slice xa na xc) := (HB1.out.cell (p := ⟨g, _, none⟩) hg).trans HC2.out
        clear b1 d0 d1
        go_wp2_with fail
        refine (HRS.out _ HB1.out _ (by omega)).mono ?_
        rintro e w2 ⟨rfl, b2⟩
        have HB2 : Hid (Below wr.heap.size wr w2) := Lib.hid (HB1.out.trans (b2.mono z1))
        have z2 := HB2.out.size
        have e3 : w2.cell? ⟨g, k * 4 + 3, none⟩ = some (.slice xb ne xd) := (HB2.out.cell (p := ⟨g, _, none⟩) hg).trans HC3.out
        have hd : decide (((m + 2 + na : Nat) : Int) < 0) = false := decide_eq_false (by omega)
        clear b2 e2
        go_wp2_with fail
        refine (HRT.out _ HB2.out).mono ?_
        rintro e w3 ⟨rfl, b3⟩
        have HB3 : Hid (Below w.heap.size w w3) := Lib.hid (HB.out.trans ((HB2.out.trans (b3.mono z2)).mono hB))
        have hd : decide (((m + 2 + na + 3 * ne : Nat) : Int) < 0) = false := decide_eq_false (by omega)
        clear b3 e3
        go_wp2
        go_roundw
        case rel => exact ⟨k + 1, m + 2 + na + 3 * ne, by omega, HNX, by go_num, by go_num, HB3.out⟩
        case measure => simp [RowKit.intOf]; omega
    · have hkk : k = X.length := by omega
      have HV : Hid (mkN 1 X = m) := Lib.hid (by have := HM.out; rw [hkk, List.take_length] at this; exact this)
      subst hkk
      clear hbel
      go_wp2
      go_ret
      exact ⟨by rw [HV.out]; rfl, HB.out⟩
end Go.Proofs.YtcnnfhcpkbjolaaDoor
