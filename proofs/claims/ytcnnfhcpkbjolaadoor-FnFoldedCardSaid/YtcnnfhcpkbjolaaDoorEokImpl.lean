/- The program's ExprEnd; The program's ExprOk. -/
import Derived.Test.YtcnnfhcpkbjolaaDoorNtB
import Derived.Test.YtcnnfhcpkbjolaaDoorPlainA
/-! The program's ExprEnd -/
namespace Go.Proofs.YtcnnfhcpkbjolaaDoor
open Go.RowKit Go.Lib

/-- No name of the row is longer than the model's greatest. -/
def NamesI (l : List TokL) : Prop := ∀ j (h : j < l.length), l[j].name.size ≤ maxLen

theorem arZ_neg (t : TokL) (h : tokB t = false) : arZ t = -1 := arZ_bad t h

set_option maxHeartbeats 1000000 in
theorem i_end (a : Option Addr) (cap : Nat) (l : List TokL) (b : Int) (w : World) (hl : l.length ≤ 1048576) (hr : ReadT w a l) (hn : NamesI l) (hb : b ≤ 9223372036854775807) :
    Calls Tryd.prog 94 #[.slice a l.length cap, .int .i64 b] w fun e w' => e = .returned (.int .i64 (endZ l b)) ∧ Below w.heap.size w w' := by
  by_cases hb0 : b < 0
  · have hr := Lib.hid (endZ_neg l b hb0)
    go_enter Tryd.func94, Tryd.ntmps94
    go_wp2
    go_ret
    exact ⟨ret_int hr.out.symm, Below.refl _ _⟩
  obtain ⟨i0, rfl⟩ := Int.eq_ofNat_of_zero_le (by omega : 0 ≤ b)
  have HR := Lib.hid hr
  have HN := Lib.hid hn
  obtain ⟨R, hR⟩ : ∃ R, resZ (scanN (l.drop i0) 1) i0 = R := ⟨_, rfl⟩
  have HE : Hid (endZ l (i0 : Int) = R) := Lib.hid (by rw [endZ_nat, hR])
  have HR0 := Lib.hid hR
  clear hr hn hR
  go_enter Tryd.func94, Tryd.ntmps94
  go_wp2_with fail
  go_loopw [1, 5, 6] (fun x y _ wr => ∃ i n : Nat, x = .int .i64 (i : Int) ∧ y = .int .i64 (n : Int) ∧ 0 < n ∧ n ≤ 1 + 4 * i ∧ i ≤ 9223372036854775807 ∧ resZ (scanN (l.drop i) n) i = R ∧ Below w.heap.size w wr) (fun x _ _ _ => l.length - (intOf x).toNat)
  case atStart => exact ⟨i0, 1, rfl, rfl, by omega, by omega, by omega, HR0.out, Below.refl _ _⟩
  case round =>
    obtain ⟨i, n, rfl, rfl, hnp, hn, hi, hres, hbel⟩ := hrel
    have HB := Lib.hid hbel
    have hB := hbel.size
    have HS := Lib.hid hres
    clear hres
    by_cases hlt : i < l.length
    · obtain ⟨g, rfl, hg, c0, c1, c2⟩ := HR.out i hlt
      have hsz := HN.out i hlt
      have HV0 := Lib.hid (scan_bad l i n hlt hnp)
      have HV1 := Lib.hid (scan_ok l i n hlt hnp)
      obtain ⟨t, ht⟩ : ∃ t, l[i] = t := ⟨_, rfl⟩
      rw [ht] at c0 c1 c2 hsz HV0 HV1
      have d0 : wr.cell? ⟨g, i * 3, none⟩ = some (.int .i64 t.kind) := (hbel.cell (p := ⟨g, _, none⟩) hg).trans c0
      have d1 : wr.cell? ⟨g, i * 3 + 1, none⟩ = some (.int .i64 t.num) := (hbel.cell (p := ⟨g, _, none⟩) hg).trans c1
      have d2 : wr.cell? ⟨g, i * 3 + 2, none⟩ = some (.string t.name) := (hbel.cell (p := ⟨g, _, none⟩) hg).trans c2
      have gw : g < wr.heap.size := by omega
      have k0 : (0 : Int) ≤ (i : Int) := by omega
      have k1 : (i : Int) < (l.length : Int) := by omega
      clear c0 c1 c2 hbel ht
      have HA := Lib.hid (fun W => i_arity t.kind t.num t.name W hsz)
      obtain ⟨ok, hok⟩ : ∃ ok, tokB t = ok := ⟨_, rfl⟩
      cases ok
      · have HV := Lib.hid (HV0.out hok)
        rw [show arZ ⟨t.kind, t.num, t.name⟩ = -1 from arZ_bad t hok] at HA
        clear hok
        go_wp2_with fail
        refine (HA.out _).mono ?_
        rintro e w1 ⟨rfl, b1⟩
        have HB1 := Lib.hid (HB.out.trans (b1.mono hB))
        clear b1
        go_wp2
        go_ret
        exact ⟨ret_int (by rw [HE.out, ← HS.out, HV.out]), HB1.out⟩
      · have HV := Lib.hid (HV1.out hok)
        have ar0 := arZ_pos t hok
        have ar1 := (arZ_bd t).2
        obtain ⟨r, hr⟩ := Int.eq_ofNat_of_zero_le ar0
        rw [show arZ ⟨t.kind, t.num, t.name⟩ = (r : Int) from hr] at HA
        have hr4 : r ≤ 4 := by omega
        have HV' : Hid (resZ (scanN (l.drop i) n) i = resZ (scanN (l.drop (i + 1)) (n - 1 + r)) (i + 1)) := Lib.hid (by rw [HV.out, hr]; rfl)
        clear hok ar0 ar1 hr HV HV0 HV1
        go_wp2_with fail
        refine (HA.out _).mono ?_
        rintro e w1 ⟨rfl, b1⟩
        have HB1 := Lib.hid (HB.out.trans (b1.mono hB))
        have hd : decide ((r : Int) < 0) = false := by simp
        clear b1
        by_cases hz : n - 1 + r = 0
        · have ez : ((n : Int) + ((r : Int) - 1) == 0) = true := by simp; omega
          have HZ : Hid (R = ((i + 1 : Nat) : Int)) := Lib.hid (by rw [← HS.out, HV'.out, hz, scan_zero])
          clear hz
          go_wp2
          go_ret
          exact ⟨ret_int (by rw [HE.out, HZ.out]; omega), HB1.out⟩
        · have ez : ((n : Int) + ((r : Int) - 1) == 0) = false := by simp; omega
          have hz' : 0 < n - 1 + r := by omega
          clear hz
          go_wp2
          go_roundw
          case rel => exact ⟨i + 1, n - 1 + r, by go_num, by go_num, hz', by omega, by omega, by rw [← HV'.out]; exact HS.out, HB1.out⟩
          case measure => simp [intOf]; omega
    · have HV := Lib.hid (scan_out l i n (by omega) hnp)
      go_wp2_with fail
      go_ret
      exact ⟨ret_int (by rw [HE.out, ← HS.out, HV.out]), HB.out⟩
end Go.Proofs.YtcnnfhcpkbjolaaDoor

/-! The program's ExprOk -/
namespace Go.Proofs.YtcnnfhcpkbjolaaDoor
open Go.RowKit Go.Lib

theorem exprI_nil : exprB [] = false := rfl
theorem exprI_long (l : List TokL) (h : 20 < l.length) : exprB l = false := by unfold exprB; rw [decide_eq_false (by omega : ¬ l.length ≤ 20)]; rfl
theorem exprI_mid (l : List TokL) (h : l.length ≤ 20) : exprB l = (endZ l 0 == (l.length : Int)) := by
  unfold exprB; rw [decide_eq_true h, Bool.true_and]; rw [Bool.eq_iff_iff]; simp

set_option maxHeartbeats 400000 in
theorem i_exprok (a : Option Addr) (cap : Nat) (l : List TokL) (w : World) (hl : l.length ≤ 1048576) (hr : ReadT w a l) (hn : NamesI l) :
    Calls Tryd.prog 63 #[.slice a l.length cap] w fun e w' => e = .returned (.bool (exprB l)) ∧ Below w.heap.size w w' := by
  by_cases hb : 20 < l.length
  · have HV := Lib.hid (exprI_long l hb)
    have hd : decide (l.length ≤ 20) = false := by simp; omega
    clear hr hn
    go_enter Tryd.func63, Tryd.ntmps63
    go_wp2
    go_ret
    exact ⟨ret_b HV.out.symm, Below.refl _ _⟩
  have hb' : l.length ≤ 20 := by omega
  have HV := Lib.hid (exprI_mid l hb')
  have S := Lib.hid (fun W h => i_end a cap l 0 W hl h hn (by omega))
  have HR := Lib.hid hr
  clear hr hn hb
  obtain ⟨r, hre⟩ : ∃ r, endZ l 0 = r := ⟨_, rfl⟩
  rw [hre] at S HV
  clear hre
  go_enter Tryd.func63, Tryd.ntmps63
  go_wp2_with fail
  refine (S.out _ HR.out).mono ?_
  rintro e w1 ⟨rfl, b1⟩
  have HB := Lib.hid b1
  clear b1
  go_wp2
  all_goals go_ret
  all_goals exact ⟨ret_b (by rw [HV.out]), HB.out⟩
end Go.Proofs.YtcnnfhcpkbjolaaDoor
