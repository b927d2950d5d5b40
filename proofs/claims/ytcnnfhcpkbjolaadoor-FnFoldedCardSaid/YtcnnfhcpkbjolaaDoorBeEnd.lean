/- The program's lineIs and EndOf. -/
import Derived.Test.YtcnnfhcpkbjolaaDoorBeB
namespace Go.Proofs.YtcnnfhcpkbjolaaDoor
open Go.RowKit Go.Lib

theorem lkZ_out (p : List PLine) (k : Int) (h : k < 0 ∨ (p.length : Int) ≤ k) : lkZ p k = -1 := by
  unfold lkZ
  rcases h with h | h
  · rw [if_pos h]
  · rw [if_neg (by omega), List.getElem?_eq_none (by omega)]

set_option maxRecDepth 100000 in
set_option maxHeartbeats 1000000 in
theorem i_lineIs (a : Option Addr) (cap : Nat) (X : List LnL) (k : Int) (b : Option Addr) (d : Nat) (ks : List Int) (w : World) (hl : X.length ≤ 2000000) (hr : ReadL 9 83 w a X) (hk : ReadI w b ks) (hkl : ks.length ≤ 100) (hno : memI ks (-1) = false) :
    Calls Tryd.prog 112 #[.slice a X.length cap, .int .i64 k, .slice b ks.length d] w fun e w' => e = .returned (.bool (memI ks (lkZ (plL X) k))) ∧ Below w.heap.size w w' := by
  have HR := Lib.hid hr
  have HK := Lib.hid hk
  have hpl := plL_length X
  clear hr hk
  by_cases hneg : k < 0
  · have HV : Hid (memI ks (lkZ (plL X) k) = false) := Lib.hid (by rw [lkZ_out _ _ (.inl hneg)]; exact hno)
    have hd : decide (0 ≤ k) = false := decide_eq_false (by omega)
    clear hpl hno
    go_enter Tryd.func112, Tryd.ntmps112
    go_wp2
    go_ret
    exact ⟨ret_b HV.out.symm, Below.refl _ _⟩
  by_cases hbig : (X.length : Int) ≤ k
  · have HV : Hid (memI ks (lkZ (plL X) k) = false) := Lib.hid (by rw [lkZ_out _ _ (.inr (by rw [hpl]; exact hbig))]; exact hno)
    have hd : decide (0 ≤ k) = true := decide_eq_true (by omega)
    have hd2 : decide (k < (X.length : Int)) = false := decide_eq_false (by omega)
    clear hpl hno
    go_enter Tryd.func112, Tryd.ntmps112
    go_wp2
    go_ret
    exact ⟨ret_b HV.out.symm, Below.refl _ _⟩
  obtain ⟨j, rfl, hj⟩ := int_nat k X.length (by omega) (by omega)
  have hjp : j < (plL X).length := by omega
  obtain ⟨g, rfl, hg, ⟨c0, _, _, _⟩, _⟩ := HR.out j hj
  have k0 : (0 : Int) ≤ (j : Int) := by omega
  have k1 : (j : Int) < (X.length : Int) := by omega
  have hd : decide (0 ≤ (j : Int)) = true := decide_eq_true k0
  have hd2 : decide ((j : Int) < (X.length : Int)) = true := decide_eq_true k1
  have HV : Hid (lkZ (plL X) (j : Int) = X[j].kind) := Lib.hid (by rw [lkZ_at _ _ hjp, pl_kind X j hj])
  have HC := Lib.hid (x_containsI b d ks X[j].kind w HK.out (by omega))
  rw [← HV.out] at c0 HC
  generalize lkZ (plL X) (j : Int) = kd at *
  clear HV hneg hbig hno hpl
  go_enter Tryd.func112, Tryd.ntmps112
  go_wp2_with (first | (go_at_call 124; refine HC.out.mono ?_; rintro e w' ⟨rfl, b1⟩))
  go_ret
  exact ⟨rfl, b1⟩
theorem ops_mem (k : Int) : memI [0, 3, 5] k = isOp k := by
  unfold isOp memI
  by_cases h0 : k = 0
  · subst h0; rfl
  by_cases h3 : k = 3
  · subst h3; rfl
  by_cases h5 : k = 5
  · subst h5; rfl
  have a0 : (k == 0) = false := by simpa using h0
  have a3 : (k == 3) = false := by simpa using h3
  have a5 : (k == 5) = false := by simpa using h5
  rw [a0, a3, a5]
  simp [h0, h3, h5]
theorem beZ_lk (p : List PLine) (k : Int) (h : isOp (lkZ p k) = false) : beZ p k = -1 := beZ_not p k (fun hc => by rw [h] at hc; exact absurd hc.2.2 (by decide))
theorem lk_in (p : List PLine) (k : Int) (h : isOp (lkZ p k) = true) : ∃ j : Nat, k = (j : Int) ∧ j < p.length := by
  by_cases h1 : k < 0 ∨ (p.length : Int) ≤ k
  · rw [lkZ_out p k h1] at h; exact absurd h (by decide)
  · exact ⟨k.toNat, by omega, by omega⟩

set_option maxRecDepth 100000 in
set_option maxHeartbeats 2000000 in
theorem i_endOf (a : Option Addr) (cap : Nat) (X : List LnL) (k : Int) (w : World) (hl : X.length ≤ 2000000) (hr : ReadL 9 83 w a X) :
    Calls Tryd.prog 87 #[.slice a X.length cap, .int .i64 k] w fun e w' => e = .returned (.int .i64 (beZ (plL X) k)) ∧ Below w.heap.size w w' := by
  have HR := Lib.hid hr
  have hpl := plL_length X
  clear hr
  have HB0 : Hid (Below w.heap.size w (w.alloc (.cells #[.int .i64 0, .int .i64 3, .int .i64 5] 3))) := Lib.hid ((Below.refl _ _).alloc (Nat.le_refl _) _)
  have HI := Lib.hid (fun b d hk => i_lineIs a cap X k b d [0, 3, 5] (w.alloc (.cells #[.int .i64 0, .int .i64 3, .int .i64 5] 3)) hl (HR.out.below HB0.out) hk (by decide) (by decide))
  have HK : Hid (ReadI (w.alloc (.cells #[.int .i64 0, .int .i64 3, .int .i64 5] 3)) (some ⟨w.heap.size, 0, none⟩) [0, 3, 5]) := Lib.hid (readI_of (B := 0) (T := 3) (c := 3) (World.ownsRow_lit w #[.int .i64 0, .int .i64 3, .int .i64 5] 3 (Nat.zero_le _) (by decide) rfl))
  rw [ops_mem] at HI
  have hz0 : (w.alloc (.cells #[.int .i64 0, .int .i64 3, .int .i64 5] 3)).heap.size = w.heap.size + 1 := by simp
  by_cases hop : isOp (lkZ (plL X) k) = true
  · obtain ⟨j, rfl, hjp⟩ := lk_in (plL X) k hop
    have hj : j < X.length := by omega
    rw [hop] at HI
    have HV : Hid (beZ (plL X) (j : Int) = endF 0 j ((plL X).drop j)) := Lib.hid (beZ_from (plL X) j hjp (by rw [← lkZ_at _ _ hjp]; exact hop))
    clear hop
    go_enter Tryd.func87, Tryd.ntmps87
    go_wp2_with fail
    refine (HI.out _ _ HK.out).mono ?_
    rintro e w1 ⟨rfl, b1⟩
    have HB1 : Hid (Below w.heap.size w w1) := Lib.hid (HB0.out.trans (b1.mono (by omega)))
    clear b1 HI HK
    go_wp2_with fail
    go_loopw [5, 6] (fun o i wr => ∃ (q : Nat) (z : Int), j ≤ q ∧ q ≤ X.length ∧ i = .int .i64 (q : Int) ∧ o = .int .i64 z ∧ -(q : Int) ≤ z ∧ z ≤ (q : Int) ∧ Hid (endF z q ((plL X).drop q) = endF 0 j ((plL X).drop j)) ∧ Below w.heap.size w wr) (fun _ i _ => X.length - (RowKit.intOf i).toNat)
    case atStart => exact ⟨j, 0, Nat.le_refl _, by omega, rfl, rfl, by omega, by omega, Lib.hid rfl, HB1.out⟩
    case round =>
      obtain ⟨q, z, hjq, hq, rfl, rfl, hz1, hz2, HE, hbel⟩ := hrel
      have HB := Lib.hid hbel
      have hB := hbel.size
      by_cases hlt : q < X.length
      · obtain ⟨g', rfl, hg', ⟨c0, c1, c2, c3⟩, hm⟩ := (HR.out.below hbel) q hlt
        have hqp : q < (plL X).length := by omega
        have HN := Lib.hid (endF_at (plL X) z q hqp)
        rw [pl_kind X q hlt] at HN
        obtain ⟨xa, xb, xc, xd, ea, ee, _, _, _, _⟩ := inMem_shape hm
        rw [ea] at c2
        rw [ee] at c3
        have HOP := Lib.hid (fun W => i_opened X[q].kind X[q].name (.slice xa X[q].args.length xc) (.slice xb X[q].expr.length xd) W)
        have HC := Lib.hid (opn_cases X[q].kind)
        generalize X[q].kind = kd at *
        generalize X[q].name = nm at *
        generalize X[q].args.length = na at *
        generalize X[q].expr.length = ne at *
        have hob : -1 ≤ opn kd ∧ opn kd ≤ 1 := by have := HC.out; omega
        have k3 : (0 : Int) ≤ (q : Int) := by omega
        have k4 : (q : Int) < (X.length : Int) := by omega
        generalize opn kd = od at *
        have HCC := Lib.hid (And.intro c0 (And.intro c1 (And.intro c2 c3)))
        clear hm ea ee HC hbel
        by_cases h0 : z + od = 0
        · have HN' := Lib.hid (HN.out.symm.trans HE.out)
          rw [if_pos h0] at HN'
          have hd : (z + od == 0) = true := by simpa using h0
          clear HN
          go_wp2_with fail
          refine (HOP.out _).mono ?_
          rintro e w1 ⟨rfl, b1⟩
          have HB2 : Hid (Below w.heap.size w w1) := Lib.hid (HB.out.trans (b1.mono hB))
          clear b1 c0 c1 c2 c3 HCC
          go_wp2
          go_ret
          exact ⟨by rw [HV.out, ← HN'.out]; rfl, HB2.out⟩
        · have HN' := Lib.hid (HN.out.symm.trans HE.out)
          rw [if_neg h0] at HN'
          have hd : (z + od == 0) = false := by simpa using h0
          clear HN h0
          go_wp2_with fail
          refine (HOP.out _).mono ?_
          rintro e w1 ⟨rfl, b1⟩
          have HB2 : Hid (Below w.heap.size w w1) := Lib.hid (HB.out.trans (b1.mono hB))
          clear b1 c0 c1 c2 c3 HCC
          go_wp2
          go_roundw
          case rel => exact ⟨q + 1, z + od, by omega, by omega, by go_num, by go_num, by omega, by omega, HN', HB2.out⟩
          case measure => simp [RowKit.intOf]; omega
      · have hqq : q = X.length := by omega
        subst hqq
        have HN' : Hid (-1 = endF 0 j ((plL X).drop j)) := Lib.hid (by rw [← HE.out, endF_out _ _ _ (by omega)])
        clear hbel
        go_wp2
        go_ret
        exact ⟨by rw [HV.out, ← HN'.out]; rfl, HB.out⟩
  · have hop' : isOp (lkZ (plL X) k) = false := by simpa using hop
    have HV : Hid (beZ (plL X) k = -1) := Lib.hid (beZ_lk _ _ hop')
    rw [hop'] at HI
    clear hop hop' hpl
    go_enter Tryd.func87, Tryd.ntmps87
    go_wp2_with fail
    refine (HI.out _ _ HK.out).mono ?_
    rintro e w1 ⟨rfl, b1⟩
    have HB1 : Hid (Below w.heap.size w w1) := Lib.hid (HB0.out.trans (b1.mono (by omega)))
    clear b1 HI HK
    go_wp2
    go_ret
    exact ⟨by rw [HV.out]; rfl, HB1.out⟩
end Go.Proofs.YtcnnfhcpkbjolaaDoor
