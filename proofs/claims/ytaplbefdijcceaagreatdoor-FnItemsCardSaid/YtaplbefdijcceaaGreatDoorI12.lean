/- The program's ElseOf: a goto goes on with the next line. -/
import Derived.Test.YtaplbefdijcceaaGreatDoorI10
import Derived.Test.YtaplbefdijcceaaGreatDoorI11
import Derived.ScopeJumps
import Derived.WalkMore
namespace Go.Proofs.YtaplbefdijcceaaGreatDoor
open Go.RowKit Go.Lib
theorem if_mem (k : Int) : memI [3] k = decide (k = 3) := by
  unfold memI
  by_cases h : k = 3
  · subst h; rfl
  · rw [decide_eq_false h]; simp [h]
set_option maxRecDepth 1000000 in
set_option maxHeartbeats 8000000 in
theorem i_elseOf (a : Option Addr) (cap : Nat) (X : List LnL) (k : Int) (w : World) (hl : X.length ≤ 2000000) (hr : ReadL 9 49 w a X) :
    Calls Tryz.prog 171 #[.slice a X.length cap, .int .i64 k] w fun e w' => e = .returned (.int .i64 (elseZ (plL X) k)) ∧ Below w.heap.size w w' := by
  have HR := hid hr
  have hpl := plL_length X
  have SE := hid (fun (W : World) (hb : Below w.heap.size w W) (q : Int) => i_endOf a cap X q W hl (HR.out.below hb))
  clear hr
  have HB0 : Hid (Below w.heap.size w (w.alloc (.cells #[.int .i64 3] 3))) := hid ((Below.refl _ _).alloc (Nat.le_refl _) _)
  have HI := hid (fun b d hk => i_lineIs a cap X k b d [3] (w.alloc (.cells #[.int .i64 3] 3)) hl (HR.out.below HB0.out) hk (by decide) (by decide))
  have HK : Hid (ReadI (w.alloc (.cells #[.int .i64 3] 3)) (some ⟨w.heap.size, 0, none⟩) [3]) := hid (readI_of (B := 0) (T := 3) (c := 1) (World.ownsRow_lit w #[.int .i64 3] 1 (Nat.zero_le _) (by decide) rfl))
  rw [if_mem] at HI
  have hz0 : (w.alloc (.cells #[.int .i64 3] 3)).heap.size = w.heap.size + 1 := by simp
  by_cases h3 : lkZ (plL X) k = 3
  · obtain ⟨j, rfl, hjp⟩ := lk_in (plL X) k (by rw [h3]; rfl)
    have hj : j < X.length := by omega
    rw [decide_eq_true h3] at HI
    have HI' := hid (HI.out _ 1 HK.out)
    clear HI HK
    obtain ⟨g, ha, hg, _⟩ := HR.out j hj
    subst ha
    have HE1 : Hid (∀ W, Below w.heap.size w W → Calls Tryz.prog 135 #[.slice (some ⟨g, 0, none⟩) X.length cap, .int .i64 (j : Int)] W fun e w' => e = .returned (.int .i64 (beZ (plL X) (j : Int))) ∧ Below W.heap.size W w') := hid (fun W hb => SE.out W hb j)
    by_cases hneg : beZ (plL X) (j : Int) < 0
    · have HV := hid (elseZ_none (plL X) j hneg)
      obtain ⟨e, he⟩ : ∃ e, beZ (plL X) (j : Int) = e := ⟨_, rfl⟩
      have hlo := (beZ_lt (plL X) (j : Int)).1
      rw [he] at hneg HE1 hlo
      obtain rfl : e = -1 := by omega
      have hdl : decide (-1 ≤ (j : Int) + 1) = true := decide_eq_true (by omega)
      clear he h3 SE hneg hlo
      go_enter Tryz.func171, Tryz.ntmps171
      go_wp2
      refine wp_scope_jumps 0 (fun _ _ => False) (fun _ _ => 0) rfl ?_ ?_
      · go_wp2_with fail
        refine HI'.out.mono ?_
        rintro e w1 ⟨rfl, b1⟩
        have HB1 : Hid (Below w.heap.size w w1) := hid (HB0.out.trans (b1.mono (by omega)))
        have z1 := HB1.out.size
        clear b1
        go_wp2_with fail
        refine (HE1.out _ HB1.out).mono ?_
        rintro e w2 ⟨rfl, b2⟩
        have HB2 : Hid (Below w.heap.size w w2) := hid (HB1.out.trans (b2.mono z1))
        clear b2
        go_wp2
        go_step3
        go_wp2
        simp only [Exit.jump]
        go_ret
        exact ⟨by rw [HV.out]; rfl, HB2.out⟩
      · intro a w h; exact h.elim
    have HV := hid (elseZ_from (plL X) j (by omega) h3)
    have HIN := hid (fun (q : Nat) hk hq => beZ_in35 (plL X) j q (by omega) hk hq)
    have hje : (j : Int) < beZ (plL X) (j : Int) ∧ beZ (plL X) (j : Int) < ((plL X).length : Int) := by
      obtain ⟨j', hjj, _, _, h1, h2⟩ := beZ_is (plL X) (j : Int) (by omega)
      exact ⟨by omega, h2⟩
    obtain ⟨hje, hel⟩ := hje
    obtain ⟨e, he⟩ : ∃ e, beZ (plL X) (j : Int) = e := ⟨_, rfl⟩
    rw [he] at HV HIN HE1 hje hel
    clear he h3 hneg
    go_enter Tryz.func171, Tryz.ntmps171
    go_wp2
    refine wp_scope_jumps 0 (fun a' w' => Below w.heap.size w w' ∧ ∃ (f q : Nat) (u7 u8 u9 u10 u11 u12 u13 u14 u15 u16 u17 u18 u19 u20 u21 u22 u23 u24 u25 u26 u27 u28 u29 u30 u31 u32 u33 u34 : Value), a' = { tmps := #[.slice (some ⟨g, 0, none⟩) X.length cap, .int .i64 (j : Int), undef, undef, .int .i64 0, .int .i64 (q : Int), .int .i64 e, u7, u8, u9, u10, u11, u12, u13, u14, u15, u16, u17, u18, u19, u20, u21, u22, u23, u24, u25, u26, u27, u28, u29, u30, u31, u32, u33, u34], defers := [] } ∧ j ≤ q ∧ (q : Int) < e ∧ Hid (elseF (plL X) e f (q + 1) = elseF (plL X) e (plL X).length (j + 1)) ∧ e ≤ (f : Int) + (q : Int) + 1) (fun a' _ => (e - RowKit.intOf (a'.tmps.getD 5 undef)).toNat) rfl ?_ ?_
    · go_wp2_with fail
      refine HI'.out.mono ?_
      rintro e' w1 ⟨rfl, b1⟩
      have HB1 : Hid (Below w.heap.size w w1) := hid (HB0.out.trans (b1.mono (by omega)))
      have z1 := HB1.out.size
      clear b1
      go_wp2_with fail
      refine (HE1.out _ HB1.out).mono ?_
      rintro e' wr ⟨rfl, b2⟩
      have HBR : Hid (Below w.heap.size w wr) := hid (HB1.out.trans (b2.mono z1))
      clear b2 HE1 HI'
      go_wp2
      go_step3
      obtain ⟨f, q, hjq, hqe, hf, HE, hqj⟩ : ∃ f q : Nat, j ≤ q ∧ (q : Int) < e ∧ e ≤ (f : Int) + (q : Int) + 1 ∧ Hid (elseF (plL X) e f (q + 1) = elseF (plL X) e (plL X).length (j + 1)) ∧ q = j := ⟨(plL X).length, j, Nat.le_refl _, by omega, by omega, hid rfl, rfl⟩
      subst hqj
      by_cases hlt : ((q + 1 : Nat) : Int) < e
      · have hq : q + 1 < X.length := by omega
        have hqp : q + 1 < (plL X).length := by omega
        obtain ⟨g', hga, hg', ⟨c0, _, _, _⟩, _⟩ := (HR.out.below HBR.out) (q + 1) hq
        injection hga with hga
        injection hga with hga
        subst hga
        obtain ⟨f', hfe, HN0⟩ := elseF_at (plL X) e f (q + 1) hlt (by omega)
        subst hfe
        have HN := hid HN0
        clear HN0
        have hlk : lkZ (plL X) ((q + 1 : Nat) : Int) = X[q + 1].kind := by rw [lkZ_at _ _ hqp, pl_kind X (q + 1) hq]
        have HI := hid (HIN.out (q + 1) (by omega) hlt)
        rw [hlk] at HN HI
        have SQ := hid (SE.out wr HBR.out ((q + 1 : Nat) : Int))
        have hB := HBR.out.size
        obtain ⟨kd, hkd⟩ : ∃ kd, X[q + 1].kind = kd := ⟨_, rfl⟩
        rw [hkd] at c0 HN HI
        have k3 : (0 : Int) ≤ (q : Int) + 1 := by omega
        have k4 : (q : Int) + 1 < (X.length : Int) := by omega
        have k5 : ¬ e ≤ (q : Int) + 1 := by omega
        have hdl : decide (e ≤ (q : Int) + 1) = false := decide_eq_false k5
        clear hkd hlk
        by_cases h35 : kd = 3 ∨ kd = 5
        · have hn4 : ¬ kd = 4 := by omega
          rw [if_neg hn4, if_pos h35] at HN
          obtain ⟨E, hE, hqE, hEe⟩ := HI.out h35
          rw [hE] at SQ HN
          have HN' := hid (HN.out.symm.trans HE.out)
          rw [Int.toNat_natCast] at HN'
          clear hE hn4 HN HI
          rcases h35 with rfl | rfl
          all_goals
            go_wp2_with fail
            refine SQ.out.mono ?_
            rintro _ w2 ⟨rfl, b2⟩
            have HB2 : Hid (Below w.heap.size w w2) := hid (HBR.out.trans (b2.mono hB))
            clear b2 c0
            go_wp2
            go_step3
            refine ⟨rfl, HB2.out, f', E, _, _, _, _, _, _, _, _, _, _, _, _, _, _, _, _, _, _, _, _, _, _, _, _, _, _, _, _, rfl, by omega, by omega, HN', by omega⟩
        · rw [if_neg h35] at HN
          have a3 : (kd == 3) = false := by simp; omega
          have a5 : (kd == 5) = false := by simp; omega
          by_cases h4 : kd = 4
          · subst h4
            have HN' : Hid (((q + 1 : Nat) : Int) = elseF (plL X) e (plL X).length (q + 1)) := hid (by have := HN.out; rw [if_pos rfl] at this; exact this.symm.trans HE.out)
            clear HN HI h35
            go_wp2
            simp only [Exit.jump]
            go_ret
            exact ⟨by rw [HV.out, ← HN'.out]; rfl, HBR.out⟩
          · have HN' := hid (HN.out.symm.trans HE.out)
            rw [if_neg h4] at HN'
            have a4 : (kd == 4) = false := by simpa using h4
            clear HN HI h35 h4
            go_wp2
            go_step3
            have e1 : (q : Int) + 1 = ((q + 1 : Nat) : Int) := by omega
            rw [e1]
            refine ⟨rfl, HBR.out, f', q + 1, _, _, _, _, _, _, _, _, _, _, _, _, _, _, _, _, _, _, _, _, _, _, _, _, _, _, _, _, rfl, by omega, by omega, HN', by omega⟩
      · have HN' : Hid (-1 = elseF (plL X) e (plL X).length (q + 1)) := hid (by rw [← HE.out, elseF_out _ _ _ _ (by omega)])
        have hdl : decide (e ≤ (q : Int) + 1) = true := decide_eq_true (by omega)
        go_wp2
        simp only [Exit.jump]
        go_ret
        exact ⟨by rw [HV.out, ← HN'.out]; rfl, HBR.out⟩
    · rintro a' wr ⟨hbr, f, q, u7, u8, u9, u10, u11, u12, u13, u14, u15, u16, u17, u18, u19, u20, u21, u22, u23, u24, u25, u26, u27, u28, u29, u30, u31, u32, u33, u34, rfl, hjq, hqe, HE, hf⟩
      have HBR := hid hbr
      clear hbr HE1 HI'
      by_cases hlt : ((q + 1 : Nat) : Int) < e
      · have hq : q + 1 < X.length := by omega
        have hqp : q + 1 < (plL X).length := by omega
        obtain ⟨g', hga, hg', ⟨c0, _, _, _⟩, _⟩ := (HR.out.below HBR.out) (q + 1) hq
        injection hga with hga
        injection hga with hga
        subst hga
        obtain ⟨f', hfe, HN0⟩ := elseF_at (plL X) e f (q + 1) hlt (by omega)
        subst hfe
        have HN := hid HN0
        clear HN0
        have hlk : lkZ (plL X) ((q + 1 : Nat) : Int) = X[q + 1].kind := by rw [lkZ_at _ _ hqp, pl_kind X (q + 1) hq]
        have HI := hid (HIN.out (q + 1) (by omega) hlt)
        rw [hlk] at HN HI
        have SQ := hid (SE.out wr HBR.out ((q + 1 : Nat) : Int))
        have hB := HBR.out.size
        obtain ⟨kd, hkd⟩ : ∃ kd, X[q + 1].kind = kd := ⟨_, rfl⟩
        rw [hkd] at c0 HN HI
        have k3 : (0 : Int) ≤ (q : Int) + 1 := by omega
        have k4 : (q : Int) + 1 < (X.length : Int) := by omega
        have k5 : ¬ e ≤ (q : Int) + 1 := by omega
        have hdl : decide (e ≤ (q : Int) + 1) = false := decide_eq_false k5
        clear hkd hlk
        by_cases h35 : kd = 3 ∨ kd = 5
        · have hn4 : ¬ kd = 4 := by omega
          rw [if_neg hn4, if_pos h35] at HN
          obtain ⟨E, hE, hqE, hEe⟩ := HI.out h35
          rw [hE] at SQ HN
          have HN' := hid (HN.out.symm.trans HE.out)
          rw [Int.toNat_natCast] at HN'
          clear hE hn4 HN HI
          rcases h35 with rfl | rfl
          all_goals
            go_wp2_with fail
            refine SQ.out.mono ?_
            rintro _ w2 ⟨rfl, b2⟩
            have HB2 : Hid (Below w.heap.size w w2) := hid (HBR.out.trans (b2.mono hB))
            clear b2 c0
            go_wp2
            go_step3
            refine ⟨rfl, ⟨HB2.out, f', E, _, _, _, _, _, _, _, _, _, _, _, _, _, _, _, _, _, _, _, _, _, _, _, _, _, _, _, _, rfl, by omega, by omega, HN', by omega⟩, ?_⟩
            simp [RowKit.intOf]; omega
        · rw [if_neg h35] at HN
          have a3 : (kd == 3) = false := by simp; omega
          have a5 : (kd == 5) = false := by simp; omega
          by_cases h4 : kd = 4
          · subst h4
            have HN' : Hid (((q + 1 : Nat) : Int) = elseF (plL X) e (plL X).length (j + 1)) := hid (by have := HN.out; rw [if_pos rfl] at this; exact this.symm.trans HE.out)
            clear HN HI h35
            go_wp2
            simp only [Exit.jump]
            go_ret
            exact ⟨by rw [HV.out, ← HN'.out]; rfl, HBR.out⟩
          · have HN' := hid (HN.out.symm.trans HE.out)
            rw [if_neg h4] at HN'
            have a4 : (kd == 4) = false := by simpa using h4
            clear HN HI h35 h4
            go_wp2
            go_step3
            have e1 : (q : Int) + 1 = ((q + 1 : Nat) : Int) := by omega
            rw [e1]
            refine ⟨rfl, ⟨HBR.out, f', q + 1, _, _, _, _, _, _, _, _, _, _, _, _, _, _, _, _, _, _, _, _, _, _, _, _, _, _, _, _, rfl, by omega, by omega, HN', by omega⟩, ?_⟩
            simp [RowKit.intOf]; omega
      · have HN' : Hid (-1 = elseF (plL X) e (plL X).length (j + 1)) := hid (by rw [← HE.out, elseF_out _ _ _ _ (by omega)])
        have hdl : decide (e ≤ (q : Int) + 1) = true := decide_eq_true (by omega)
        go_wp2
        simp only [Exit.jump]
        go_ret
        exact ⟨by rw [HV.out, ← HN'.out]; rfl, HBR.out⟩
  · have HV := hid (elseZ_other (plL X) k h3)
    rw [decide_eq_false h3] at HI
    have HI' := hid (HI.out _ 1 HK.out)
    clear HI HK h3
    go_enter Tryz.func171, Tryz.ntmps171
    go_wp2
    refine wp_scope_jumps 0 (fun _ _ => False) (fun _ _ => 0) rfl ?_ ?_
    · go_wp2_with fail
      refine HI'.out.mono ?_
      rintro e w1 ⟨rfl, b1⟩
      have HB1 : Hid (Below w.heap.size w w1) := hid (HB0.out.trans (b1.mono (by omega)))
      clear b1
      go_wp2
      simp only [Exit.jump]
      go_ret
      exact ⟨by rw [HV.out]; rfl, HB1.out⟩
    · intro a w h; exact h.elim
end Go.Proofs.YtaplbefdijcceaaGreatDoor
