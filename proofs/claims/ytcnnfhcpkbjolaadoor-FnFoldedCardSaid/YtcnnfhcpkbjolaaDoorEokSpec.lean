/- The model's ExprEnd; The model's ExprOk. -/
import Derived.Test.YtcnnfhcpkbjolaaDoorNtB
import Derived.Test.YtcnnfhcpkbjolaaDoorPlainA
/-! The model's ExprEnd -/
namespace Go.Proofs.YtcnnfhcpkbjolaaDoor
open Go.RowKit Go.Lib

/-- No name of the row is longer than the model's greatest. -/
def NamesT (l : List TokL) : Prop := ∀ j (h : j < l.length), l[j].name.size ≤ maxLen

set_option maxHeartbeats 1000000 in
theorem s_end (a : Option Addr) (cap : Nat) (l : List TokL) (b : Int) (w : World) (hl : l.length ≤ 1048576) (hr : ReadT w a l) (hn : NamesT l) (hb : b ≤ 9223372036854775807) :
    Calls Tryd.prog 81 #[.slice a l.length cap, .int .i64 b] w fun e w' => e = .returned (.int .i64 (endZ l b)) ∧ Below w.heap.size w w' := by
  by_cases hb0 : b < 0
  · have hr := Lib.hid (endZ_neg l b hb0)
    go_enter Tryd.func81, Tryd.ntmps81
    go_wp2
    go_ret
    exact ⟨ret_int hr.out.symm, Below.refl _ _⟩
  obtain ⟨i0, rfl⟩ := Int.eq_ofNat_of_zero_le (by omega : 0 ≤ b)
  have HR := Lib.hid hr
  have HN := Lib.hid hn
  obtain ⟨R, hR⟩ : ∃ R, resZ (scanN (l.drop i0) 1) i0 = R := ⟨_, rfl⟩
  have HE : Hid (endZ l (i0 : Int) = R) := Lib.hid (by rw [endZ_nat, hR])
  have HR0 := Lib.hid hR
  clear hr hn hR
  go_enter Tryd.func81, Tryd.ntmps81
  go_wp2_with fail
  go_loopw [1, 5] (fun x y wr => ∃ i n : Nat, x = .int .i64 (i : Int) ∧ y = .int .i64 (n : Int) ∧ n ≤ 1 + 4 * i ∧ i ≤ 9223372036854775807 ∧ resZ (scanN (l.drop i) n) i = R ∧ Below w.heap.size w wr) (fun x _ _ => l.length - (intOf x).toNat)
  case atStart => exact ⟨i0, 1, rfl, rfl, by omega, by omega, HR0.out, Below.refl _ _⟩
  case round =>
    obtain ⟨i, n, rfl, rfl, hn, hi, hres, hbel⟩ := hrel
    have HB := Lib.hid hbel
    have hB := hbel.size
    have HS := Lib.hid hres
    clear hres
    by_cases hn0 : n = 0
    · subst hn0
      have HV := Lib.hid (scan_zero (l.drop i) i)
      go_wp2_with fail
      go_ret
      exact ⟨ret_int (by rw [HE.out, ← HS.out, HV.out]), HB.out⟩
    have hnp : 0 < n := by omega
    by_cases hlt : i < l.length
    · obtain ⟨g, rfl, hg, c0, c1, c2⟩ := HR.out i hlt
      have hsz := HN.out i hlt
      have HV0 := Lib.hid (scan_bad l i n hlt hnp)
      have HV1 := Lib.hid (scan_ok l i n hlt hnp)
      obtain ⟨t, ht⟩ : ∃ t, l[i] = t := ⟨_, rfl⟩
      rw [ht] at c0 c1 c2 hsz HV0 HV1
      have d0 : wr.cell? ⟨g, i * 3, none⟩ = some (.int .i64 t.kind) := (hbel.cell (p := ⟨g, _, none⟩) hg).trans c0
      have d1 : wr.cell? ⟨g, i * 3 + 1, none⟩ = some (.int .i64 t.num) := (hbel.cell (p := ⟨g, _, none⟩) hg).trans c1
      have d2 : wr.cell? ⟨g, i * 3 + 2, none⟩ = some (.string t.name) := (hbel.cell (p := ⟨g, _, none⟩) hg).trans c2
      have gw : g < wr.heap.size := by omega
      have k0 : (0 : Int) ≤ (i : Int) := by omega
      have k1 : (i : Int) < (l.length : Int) := by omega
      clear c0 c1 c2 hbel ht hn0
      obtain ⟨ok, hok⟩ : ∃ ok, tokB t = ok := ⟨_, rfl⟩
      have HT : Hid (∀ W : World, Calls Tryd.prog 107 #[.agg #[.int .i64 t.kind, .int .i64 t.num, .string t.name]] W fun e w' => e = .returned (.bool ok) ∧ Below W.heap.size W w') := Lib.hid (fun W => hok ▸ s_tok' t W hsz)
      cases ok
      · have HV := Lib.hid (HV0.out hok)
        clear hok
        go_wp2_with fail
        refine (HT.out _).mono ?_
        rintro e w1 ⟨rfl, b1⟩
        have HB1 := Lib.hid (HB.out.trans (b1.mono hB))
        clear b1
        go_wp2
        go_ret
        exact ⟨ret_int (by rw [HE.out, ← HS.out, HV.out]), HB1.out⟩
      · have HV := Lib.hid (HV1.out hok)
        have ar0 := arZ_pos t hok
        have ar1 := (arZ_bd t).2
        obtain ⟨r, hr⟩ := Int.eq_ofNat_of_zero_le ar0
        have HA : Hid (∀ W : World, Calls Tryd.prog 99 #[.agg #[.int .i64 t.kind, .int .i64 t.num, .string t.name]] W fun e w' => e = .returned (.int .i64 (r : Int)) ∧ Below W.heap.size W w') := Lib.hid (fun W => by have := s_arity t.kind t.num t.name W hsz; rw [show arZ ⟨t.kind, t.num, t.name⟩ = arZ t from rfl, hr] at this; exact this)
        have hr4 : r ≤ 4 := by omega
        have HV' : Hid (resZ (scanN (l.drop i) n) i = resZ (scanN (l.drop (i + 1)) (n - 1 + r)) (i + 1)) := Lib.hid (by rw [HV.out, hr]; rfl)
        clear hok ar0 ar1 hr HV HV0 HV1
        go_wp2_with fail
        refine (HT.out _).mono ?_
        rintro e w1 ⟨rfl, b1⟩
        have HB1 := Lib.hid (HB.out.trans (b1.mono hB))
        have hB1 : w.heap.size ≤ w1.heap.size := HB1.out.size
        have e0 := (b1.cell (p := ⟨g, i * 3, none⟩) gw).trans d0
        have e1 := (b1.cell (p := ⟨g, i * 3 + 1, none⟩) gw).trans d1
        have e2 := (b1.cell (p := ⟨g, i * 3 + 2, none⟩) gw).trans d2
        clear b1 d0 d1 d2
        go_wp2_with fail
        refine (HA.out _).mono ?_
        rintro e w2 ⟨rfl, b2⟩
        have HB2 := Lib.hid (HB1.out.trans (b2.mono hB1))
        clear b2
        go_wp2
        go_roundw
        case rel => exact ⟨i + 1, n - 1 + r, by go_num, by go_num, by omega, by omega, by rw [← HV'.out]; exact HS.out, HB2.out⟩
        case measure => simp [intOf]; omega
    · have HV := Lib.hid (scan_out l i n (by omega) hnp)
      go_wp2_with fail
      go_ret
      exact ⟨ret_int (by rw [HE.out, ← HS.out, HV.out]), HB.out⟩
end Go.Proofs.YtcnnfhcpkbjolaaDoor

/-! The model's ExprOk -/
namespace Go.Proofs.YtcnnfhcpkbjolaaDoor
open Go.RowKit Go.Lib

theorem exprB_nil : exprB [] = false := rfl
theorem exprB_long (l : List TokL) (h : 20 < l.length) : exprB l = false := by unfold exprB; rw [decide_eq_false (by omega : ¬ l.length ≤ 20)]; rfl
theorem exprB_mid (l : List TokL) (h : l.length ≤ 20) : exprB l = (endZ l 0 == (l.length : Int)) := by
  unfold exprB; rw [decide_eq_true h, Bool.true_and]; rw [Bool.eq_iff_iff]; simp

set_option maxHeartbeats 400000 in
theorem s_exprok (a : Option Addr) (cap : Nat) (l : List TokL) (w : World) (hl : l.length ≤ 1048576) (hr : ReadT w a l) (hn : NamesT l) :
    Calls Tryd.prog 52 #[.slice a l.length cap] w fun e w' => e = .returned (.bool (exprB l)) ∧ Below w.heap.size w w' := by
  by_cases h0 : l.length = 0
  · obtain rfl := List.length_eq_zero_iff.1 h0
    clear hl hr hn h0
    go_enter Tryd.func52, Tryd.ntmps52
    go_wp2
    go_ret
    exact ⟨ret_b exprB_nil.symm, Below.refl _ _⟩
  have hpos : 0 < l.length := by omega
  clear h0
  by_cases hb : 20 < l.length
  · have HV := Lib.hid (exprB_long l hb)
    have hd : decide (l.length ≤ 20) = false := by simp; omega
    clear hr hn
    go_enter Tryd.func52, Tryd.ntmps52
    go_wp2
    go_ret
    exact ⟨ret_b HV.out.symm, Below.refl _ _⟩
  have hb' : l.length ≤ 20 := by omega
  have HV := Lib.hid (exprB_mid l hb')
  have S := Lib.hid (fun W h => s_end a cap l 0 W hl h hn (by omega))
  have HR := Lib.hid hr
  clear hr hn hb
  obtain ⟨r, hre⟩ : ∃ r, endZ l 0 = r := ⟨_, rfl⟩
  rw [hre] at S HV
  clear hre
  go_enter Tryd.func52, Tryd.ntmps52
  go_wp2_with fail
  refine (S.out _ HR.out).mono ?_
  rintro e w1 ⟨rfl, b1⟩
  have HB := Lib.hid b1
  clear b1
  go_wp2
  all_goals go_ret
  all_goals exact ⟨ret_b (by rw [HV.out]), HB.out⟩
end Go.Proofs.YtcnnfhcpkbjolaaDoor
