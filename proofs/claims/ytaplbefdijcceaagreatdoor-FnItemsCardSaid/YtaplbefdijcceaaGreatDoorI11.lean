/- The model's ElseOf. -/
import Derived.Test.YtaplbefdijcceaaGreatDoorI05
namespace Go.Proofs.YtaplbefdijcceaaGreatDoor
open Go.RowKit Go.Lib
theorem elseF_at (p : List PLine) (e : Int) (f q : Nat) (hq : (q : Int) < e) (hf : e ≤ (f : Int) + (q : Int)) : ∃ f', f = f' + 1 ∧ elseF p e f q = if lkZ p q = 4 then (q : Int) else if lkZ p q = 3 ∨ lkZ p q = 5 then elseF p e f' ((beZ p q).toNat + 1) else elseF p e f' (q + 1) := by
  cases f with
  | zero => omega
  | succ f => exact ⟨f, rfl, by rw [elseF, if_neg (by omega)]⟩
theorem elseZ_none (p : List PLine) (k : Int) (h : beZ p k < 0) : elseZ p k = -1 := by
  unfold elseZ; rw [if_neg (by omega)]
theorem elseZ_other (p : List PLine) (k : Int) (h : lkZ p k ≠ 3) : elseZ p k = -1 := by
  unfold elseZ; rw [if_neg (fun hc => h hc.2)]
theorem elseZ_from (p : List PLine) (j : Nat) (h : 0 ≤ beZ p j) (h3 : lkZ p j = 3) : elseZ p j = elseF p (beZ p j) p.length (j + 1) := by
  unfold elseZ; rw [if_pos ⟨h, h3⟩]; rfl
theorem beZ_in35 (p : List PLine) (k : Int) (q : Nat) (h : 0 ≤ beZ p k) (hk : k < (q : Int)) (hq : (q : Int) < beZ p k) (h35 : lkZ p q = 3 ∨ lkZ p q = 5) : ∃ E : Nat, beZ p (q : Int) = (E : Int) ∧ q < E ∧ (E : Int) < beZ p k := by
  have hl : q < p.length := by have := (beZ_lt p k).2; omega
  rw [lkZ_at p q hl] at h35
  have hop : isOp p[q].kind = true := by unfold isOp; rcases h35 with h | h <;> rw [h] <;> rfl
  have := beZ_in p k q h hk hq hl hop
  exact ⟨(beZ p (q : Int)).toNat, by omega, by omega, by omega⟩
set_option maxRecDepth 100000 in
set_option maxHeartbeats 2000000 in
theorem s_elseOf (a : Option Addr) (cap : Nat) (X : List LnL) (k : Int) (w : World) (hl : X.length ≤ 2000000) (hr : ReadL 9 49 w a X) :
    Calls Tryz.prog 93 #[.slice a X.length cap, .int .i64 k] w fun e w' => e = .returned (.int .i64 (elseZ (plL X) k)) ∧ Below w.heap.size w w' := by
  have HR := hid hr
  have hpl := plL_length X
  have SE := hid (fun (W : World) (hb : Below w.heap.size w W) (q : Int) => s_endOf a cap X q W hl (HR.out.below hb))
  clear hr
  by_cases hneg : beZ (plL X) k < 0
  · have HV := hid (elseZ_none (plL X) k hneg)
    have S1 := hid (SE.out w (Below.refl _ _) k)
    have hd : decide (beZ (plL X) k < 0) = true := decide_eq_true hneg
    generalize beZ (plL X) k = e at *
    clear hpl SE hneg
    go_enter Tryz.func93, Tryz.ntmps93
    go_wp2_with fail
    refine S1.out.mono ?_
    rintro _ w1 ⟨rfl, b1⟩
    have HB := hid b1
    clear b1
    go_wp2
    go_ret
    exact ⟨by rw [HV.out]; rfl, HB.out⟩
  have hd : decide (beZ (plL X) k < 0) = false := decide_eq_false hneg
  obtain ⟨j, rfl, hjp, hop, hje, hel⟩ := beZ_is (plL X) k (by omega)
  have hj : j < X.length := by omega
  have k0 : (0 : Int) ≤ (j : Int) := by omega
  have k1 : (j : Int) < (X.length : Int) := by omega
  have HLK : Hid (lkZ (plL X) (j : Int) = X[j].kind) := hid (by rw [lkZ_at _ _ hjp, pl_kind X j hj])
  have S1 := hid (SE.out w (Below.refl _ _) j)
  by_cases h3 : X[j].kind = 3
  · have HV := hid (elseZ_from (plL X) j (by omega) (by rw [HLK.out]; exact h3))
    have HIN := hid (fun (q : Nat) hk hq => beZ_in35 (plL X) j q (by omega) hk hq)
    obtain ⟨g, rfl, hg, ⟨c0, _, _, _⟩, _⟩ := HR.out j hj
    rw [h3] at c0
    obtain ⟨e, he⟩ : ∃ e, beZ (plL X) (j : Int) = e := ⟨_, rfl⟩
    rw [he] at HV HIN S1 hd hje hel
    clear he hop h3 hneg HLK
    go_enter Tryz.func93, Tryz.ntmps93
    go_wp2_with fail
    refine S1.out.mono ?_
    rintro _ w1 ⟨rfl, b1⟩
    have HB1 := hid b1
    have c0' := (b1.cell (p := ⟨g, j * 4, none⟩) hg).trans c0
    clear b1 c0
    go_wp2_with fail
    clear c0'
    go_loopw [6] (fun i wr => ∃ (f q : Nat), j < q ∧ (q : Int) ≤ e ∧ i = .int .i64 (q : Int) ∧ Hid (elseF (plL X) e f q = elseF (plL X) e (plL X).length (j + 1)) ∧ e ≤ (f : Int) + (q : Int) ∧ Below w.heap.size w wr) (fun i _ => (e - RowKit.intOf i).toNat)
    case atStart => exact ⟨(plL X).length, j + 1, by omega, by omega, by go_num, hid rfl, by omega, HB1.out⟩
    case round =>
      obtain ⟨f, q, hjq, hqe, rfl, HE, hf, hbel⟩ := hrel
      have HB := hid hbel
      have hB := hbel.size
      by_cases hlt : (q : Int) < e
      · have hq : q < X.length := by omega
        have hqp : q < (plL X).length := by omega
        obtain ⟨g', hga, hg', ⟨c0, _, _, _⟩, _⟩ := (HR.out.below hbel) q hq
        injection hga with hga
        injection hga with hga
        subst hga
        obtain ⟨f', rfl, HN0⟩ := elseF_at (plL X) e f q hlt hf
        have HN := hid HN0
        clear HN0
        have hlk : lkZ (plL X) (q : Int) = X[q].kind := by rw [lkZ_at _ _ hqp, pl_kind X q hq]
        have HI := hid (HIN.out q (by omega) hlt)
        rw [hlk] at HN HI
        have SQ := hid (SE.out wr hbel q)
        obtain ⟨kd, hkd⟩ : ∃ kd, X[q].kind = kd := ⟨_, rfl⟩
        rw [hkd] at c0 HN HI
        have k3 : (0 : Int) ≤ (q : Int) := by omega
        have k4 : (q : Int) < (X.length : Int) := by omega
        clear hkd hlk hbel
        by_cases h35 : kd = 3 ∨ kd = 5
        · have hn4 : ¬ kd = 4 := by omega
          rw [if_neg hn4, if_pos h35] at HN
          obtain ⟨E, hE, hqE, hEe⟩ := HI.out h35
          rw [hE] at SQ HN
          have HN' := hid (HN.out.symm.trans HE.out)
          rw [Int.toNat_natCast] at HN'
          clear hE hn4 HN HI
          rcases h35 with rfl | rfl
          all_goals
            go_wp2_with fail
            refine SQ.out.mono ?_
            rintro _ w2 ⟨rfl, b2⟩
            have HB2 : Hid (Below w.heap.size w w2) := hid (HB.out.trans (b2.mono hB))
            clear b2 c0
            go_wp2
            go_roundw
            case rel => exact ⟨f', E + 1, by omega, by omega, by go_num, HN', by omega, HB2.out⟩
            case measure => simp [RowKit.intOf]; omega
        · rw [if_neg h35] at HN
          have a3 : (kd == 3) = false := by simp; omega
          have a5 : (kd == 5) = false := by simp; omega
          by_cases h4 : kd = 4
          · subst h4
            have HN' := hid (HN.out.symm.trans HE.out)
            rw [if_pos rfl] at HN'
            clear HN HI h35
            go_wp2
            go_ret
            exact ⟨by rw [HV.out, ← HN'.out]; rfl, HB.out⟩
          · have HN' := hid (HN.out.symm.trans HE.out)
            rw [if_neg h4] at HN'
            have a4 : (kd == 4) = false := by simpa using h4
            clear HN HI h35 h4
            go_wp2
            go_roundw
            case rel => exact ⟨f', q + 1, by omega, by omega, by go_num, HN', by omega, HB.out⟩
            case measure => simp [RowKit.intOf]; omega
      · have HN' : Hid (-1 = elseF (plL X) e (plL X).length (j + 1)) := hid (by rw [← HE.out, elseF_out _ _ _ _ (by omega)])
        clear hbel
        go_wp2
        go_ret
        exact ⟨by rw [HV.out, ← HN'.out]; rfl, HB.out⟩
  · have HV := hid (elseZ_other (plL X) j (by rw [HLK.out]; exact h3))
    obtain ⟨g, rfl, hg, ⟨c0, _, _, _⟩, _⟩ := HR.out j hj
    have a3 : (X[j].kind != 3) = true := by simpa using h3
    obtain ⟨kd, hkd⟩ : ∃ kd, X[j].kind = kd := ⟨_, rfl⟩
    rw [hkd] at c0 a3
    generalize beZ (plL X) (j : Int) = e at *
    clear hkd h3 HLK hpl hop
    go_enter Tryz.func93, Tryz.ntmps93
    go_wp2_with fail
    refine S1.out.mono ?_
    rintro _ w1 ⟨rfl, b1⟩
    have HB1 := hid b1
    have c0' := (b1.cell (p := ⟨g, j * 4, none⟩) hg).trans c0
    clear b1 c0
    go_wp2
    go_ret
    exact ⟨by rw [HV.out]; rfl, HB1.out⟩
end Go.Proofs.YtaplbefdijcceaaGreatDoor
