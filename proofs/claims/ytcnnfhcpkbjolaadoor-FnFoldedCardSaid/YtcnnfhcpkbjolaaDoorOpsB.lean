/- Plain facts: The model's Operands; The program's Operands. Nothing of the program. -/
import Derived.Test.YtcnnfhcpkbjolaaDoorEokSpec
import Derived.Test.YtcnnfhcpkbjolaaDoorPlainA
import Derived.Test.YtcnnfhcpkbjolaaDoorEokImpl
/-! The model's Operands -/
namespace Go.Proofs.YtcnnfhcpkbjolaaDoor
open Go.RowKit Go.Lib

theorem infoI : (Tryd.prog.info? 3).map (fun i => (i.zero, i.size, i.bytes)) = some (some (.int .i64 0), 1, 8) := by kernel_rfl

set_option maxHeartbeats 1000000 in
theorem s_ops (a : Option Addr) (cap : Nat) (l : List TokL) (b : Int) (w : World) (hl : l.length ≤ 1048576) (hr : ReadT w a l) (hn : NamesT l) (hb : b ≤ 9223372036854775807) :
    Calls Tryd.prog 103 #[.slice a l.length cap, .int .i64 b] w (Ints 3 w.heap.size (opsZ l b) w) := by
  obtain ⟨i0, hi, hz0, hz1, hz2⟩ := info_parts infoI
  have S := Lib.hid (fun W (x : Int) h hx => s_end a cap l x W hl h hn hx)
  have HR := Lib.hid hr
  have HN := Lib.hid hn
  clear hr
  by_cases hneg : endZ l b < 0
  · have HV := Lib.hid (opsZ_none l b hneg)
    obtain ⟨R, hR⟩ : ∃ R, endZ l b = R := ⟨_, rfl⟩
    have S1 := Lib.hid (fun W h => hR ▸ S.out W b h hb)
    rw [hR] at hneg
    clear hR hn
    have hd : decide (R < 0) = true := by simpa using hneg
    go_enter Tryd.func103, Tryd.ntmps103
    go_wp2_with fail
    have HR1 := Lib.hid (HR.out.below ((Below.refl _ _).alloc (Nat.le_refl _) (.cells #[] 3)))
    have O1 := World.ownsRow_lit (base := w.heap.size) (e := 3) (size := 1) w #[] 0 (Nat.le_refl _) (by decide) rfl
    have HO1 := Lib.hid O1
    clear O1
    refine (S1.out _ HR1.out).mono ?_
    rintro e w1 ⟨rfl, b1⟩
    have HB := Lib.hid (((Below.refl _ _).alloc (Nat.le_refl _) (.cells #[] 3)).trans (b1.mono (by simp)))
    have HO2 := Lib.hid (owns3_below HO1.out b1)
    clear b1
    go_wp2
    go_ret
    rw [HV.out]
    exact ⟨_, rfl, HO2.out, HB.out⟩
  · have hb0 : 0 ≤ b := by rcases Int.lt_or_le b 0 with h | h; · rw [endZ_neg l b h] at hneg; omega
                           · exact h
    obtain ⟨i, rfl⟩ := Int.eq_ofNat_of_zero_le hb0
    obtain ⟨hil, htok⟩ := endZ_tok l i hneg
    have ar0 := arZ_pos _ htok
    have ar1 := (arZ_bd l[i]).2
    obtain ⟨r, hr⟩ := Int.eq_ofNat_of_zero_le ar0
    have HV := Lib.hid (opsZ_some l i hneg hil r hr)
    have hr4 : r ≤ 4 := by omega
    obtain ⟨g, rfl, hg, c0, c1, c2⟩ := HR.out i hil
    have hsz := hn i hil
    have HA : Hid (∀ W : World, Calls Tryd.prog 99 #[.agg #[.int .i64 l[i].kind, .int .i64 l[i].num, .string l[i].name]] W fun e w' => e = .returned (.int .i64 (r : Int)) ∧ Below W.heap.size W w') := Lib.hid (fun W => by have := s_arity l[i].kind l[i].num l[i].name W hsz; rw [show arZ ⟨l[i].kind, l[i].num, l[i].name⟩ = arZ l[i] from rfl, hr] at this; exact this)
    obtain ⟨t, ht⟩ : ∃ t, l[i] = t := ⟨_, rfl⟩
    rw [ht] at c0 c1 c2 HA
    obtain ⟨R, hR⟩ : ∃ R, endZ l (i : Int) = R := ⟨_, rfl⟩
    have S1 := Lib.hid (fun W h => hR ▸ S.out W (i : Int) h hb)
    rw [hR] at hneg
    have hd : decide (R < 0) = false := by simpa using hneg
    have k0 : (0 : Int) ≤ (i : Int) := by omega
    have k1 : (i : Int) < (l.length : Int) := by omega
    clear hR hn htok ar0 ar1 hr ht hsz
    go_enter Tryd.func103, Tryd.ntmps103
    go_wp2_with fail
    have HR1 := Lib.hid (HR.out.below ((Below.refl _ _).alloc (Nat.le_refl _) (.cells #[] 3)))
    have O1 := World.ownsRow_lit (base := w.heap.size) (e := 3) (size := 1) w #[] 0 (Nat.le_refl _) (by decide) rfl
    have HO1 := Lib.hid O1
    clear O1
    refine (S1.out _ HR1.out).mono ?_
    rintro e w1 ⟨rfl, b1⟩
    have HB1 := Lib.hid (((Below.refl _ _).alloc (Nat.le_refl _) (.cells #[] 3)).trans (b1.mono (by simp)))
    have HO2 := Lib.hid (owns3_below HO1.out b1)
    have d0 : w1.cell? ⟨g, i * 3, none⟩ = some (.int .i64 t.kind) := (HB1.out.cell (p := ⟨g, _, none⟩) hg).trans c0
    have d1 : w1.cell? ⟨g, i * 3 + 1, none⟩ = some (.int .i64 t.num) := (HB1.out.cell (p := ⟨g, _, none⟩) hg).trans c1
    have d2 : w1.cell? ⟨g, i * 3 + 2, none⟩ = some (.string t.name) := (HB1.out.cell (p := ⟨g, _, none⟩) hg).trans c2
    have z1 := HB1.out.size
    clear b1 c0 c1 c2
    go_wp2_with fail
    refine (HA.out _).mono ?_
    rintro e w2 ⟨rfl, b2⟩
    have HB2 := Lib.hid (HB1.out.trans (b2.mono z1))
    have HO3 := Lib.hid (owns3_below HO2.out b2)
    clear b2 d0 d1 d2 hd
    go_wp2_with fail
    go_loopw [5, 6, 7] (fun v x k wr => ∃ (m : Nat) (p : List Int) (y : Int), k = .int .i64 (m : Int) ∧ x = .int .i64 y ∧ y ≤ 1048577 ∧ m + p.length ≤ 4 ∧ p ++ opsFrom l m y = opsFrom l r ((i : Int) + 1) ∧ wr.ownsRow w.heap.size 3 1 v p.length (intV p) ∧ Below w.heap.size w wr)
      (fun _ _ k _ => (intOf k).toNat)
    case atStart => exact ⟨r, [], (i : Int) + 1, rfl, rfl, by omega, by simpa using hr4, rfl, HO3.out, HB2.out⟩
    case round =>
      obtain ⟨m, p, y, rfl, rfl, hy, hm4, hres, hown, hbel⟩ := hrel
      have HS := Lib.hid hres
      have HB := Lib.hid hbel
      have hB := hbel.size
      clear hres hbel
      by_cases hm0 : 0 < m
      · obtain ⟨m', rfl⟩ : ∃ m', m = m' + 1 := ⟨m - 1, by omega⟩
        have h63 : p.length + 1 ≤ maxLen := by unfold maxLen; omega
        have hby : (p.length + 1) * 8 ≤ 140737488355328 := by omega
        go_wp2_with (at_builtin; refine wpList_append_own _ rfl _ _ 28 rfl w.heap.size 3 i0 (.int .i64 0) 1 8 Tryd.underlying28 hi hz0 hz1 hz2 rfl (by decide) _ _ _ rfl (hown.alloc _) ⟨wr.heap.size, 0, none⟩ 1 1 [.int .i64 y] rfl rfl ?c1 ?c2 h63 hby ?c5 ?_)
        case c1 => exact cell_one_new _ _ _
        case c2 => intro u hu; simp at hu; subst hu; rfl
        case c5 => simp; omega
        intro v' w3 hown1 hgrow _
        have HO4 := Lib.hid (owns_ints (l := p ++ [y]) hown1 (by rw [intV_append]; rfl))
        have HB3 := Lib.hid (below_app' hown HB.out hB hgrow)
        have HR3 := Lib.hid (HR.out.below HB3.out)
        have z3 := HB3.out.size
        clear hown1 hgrow hown
        obtain ⟨y', hy'⟩ : ∃ y', endZ l y = y' := ⟨_, rfl⟩
        have S3 := Lib.hid (fun W h => hy' ▸ S.out W y h (by omega))
        have HS' : Hid ((p ++ [y]) ++ opsFrom l m' y' = opsFrom l r ((i : Int) + 1)) := Lib.hid (by rw [← hy', List.append_assoc]; exact HS.out)
        have hy'' : y' ≤ 1048577 := by have := endZ_bd l y; omega
        clear hy'
        go_wp2_with fail
        refine (S3.out _ HR3.out).mono ?_
        rintro e w4 ⟨rfl, b4⟩
        have HB4 := Lib.hid (HB3.out.trans (b4.mono z3))
        have HO5 := Lib.hid (owns3_below HO4.out b4)
        clear b4
        go_wp2
        go_roundw
        case rel => exact ⟨m', p ++ [y], y', by go_num, rfl, hy'', by simp; omega, HS'.out, HO5.out, HB4.out⟩
        case measure => simp [intOf]
      · have hm00 : m = 0 := by omega
        subst hm00
        have HE : Hid (p = opsFrom l r ((i : Int) + 1)) := Lib.hid (by have := HS.out; simpa [opsFrom] using this)
        have HO4 := Lib.hid hown
        clear hown
        go_wp2
        go_ret
        rw [HV.out, ← HE.out]
        exact ⟨_, rfl, HO4.out, HB.out⟩
end Go.Proofs.YtcnnfhcpkbjolaaDoor

/-! The program's Operands -/
namespace Go.Proofs.YtcnnfhcpkbjolaaDoor
open Go.RowKit Go.Lib

theorem infoJ : (Tryd.prog.info? 3).map (fun i => (i.zero, i.size, i.bytes)) = some (some (.int .i64 0), 1, 8) := by kernel_rfl

set_option maxHeartbeats 1000000 in
theorem i_ops (a : Option Addr) (cap : Nat) (l : List TokL) (b : Int) (w : World) (hl : l.length ≤ 1048576) (hr : ReadT w a l) (hn : NamesI l) (hb : b ≤ 9223372036854775807) :
    Calls Tryd.prog 65 #[.slice a l.length cap, .int .i64 b] w (Ints 3 w.heap.size (opsZ l b) w) := by
  obtain ⟨i0, hi, hz0, hz1, hz2⟩ := info_parts infoJ
  have S := Lib.hid (fun W (x : Int) h hx => i_end a cap l x W hl h hn hx)
  have HR := Lib.hid hr
  have HN := Lib.hid hn
  clear hr
  by_cases hneg : endZ l b < 0
  · have HV := Lib.hid (opsZ_none l b hneg)
    obtain ⟨R, hR⟩ : ∃ R, endZ l b = R := ⟨_, rfl⟩
    have S1 := Lib.hid (fun W h => hR ▸ S.out W b h hb)
    rw [hR] at hneg
    clear hR hn
    have hd : decide (R < 0) = true := by simpa using hneg
    go_enter Tryd.func65, Tryd.ntmps65
    go_wp2_with fail
    refine (S1.out _ HR.out).mono ?_
    rintro e w1 ⟨rfl, b1⟩
    have HB := Lib.hid b1
    clear b1
    go_wp2
    go_ret
    rw [HV.out]
    exact ⟨_, rfl, World.ownsRow_nil _ _ _ _, HB.out⟩
  · have hb0 : 0 ≤ b := by rcases Int.lt_or_le b 0 with h | h; · rw [endZ_neg l b h] at hneg; omega
                           · exact h
    obtain ⟨i, rfl⟩ := Int.eq_ofNat_of_zero_le hb0
    obtain ⟨hil, htok⟩ := endZ_tok l i hneg
    have ar0 := arZ_pos _ htok
    have ar1 := (arZ_bd l[i]).2
    obtain ⟨r, hr⟩ := Int.eq_ofNat_of_zero_le ar0
    have HV := Lib.hid (opsZ_some l i hneg hil r hr)
    have hr4 : r ≤ 4 := by omega
    obtain ⟨g, rfl, hg, c0, c1, c2⟩ := HR.out i hil
    have hsz := hn i hil
    have HA : Hid (∀ W : World, Calls Tryd.prog 95 #[.agg #[.int .i64 l[i].kind, .int .i64 l[i].num, .string l[i].name]] W fun e w' => e = .returned (.int .i64 (r : Int)) ∧ Below W.heap.size W w') := Lib.hid (fun W => by have := i_arity l[i].kind l[i].num l[i].name W hsz; rw [show arZ ⟨l[i].kind, l[i].num, l[i].name⟩ = arZ l[i] from rfl, hr] at this; exact this)
    obtain ⟨t, ht⟩ : ∃ t, l[i] = t := ⟨_, rfl⟩
    rw [ht] at c0 c1 c2 HA
    obtain ⟨R, hR⟩ : ∃ R, endZ l (i : Int) = R := ⟨_, rfl⟩
    have S1 := Lib.hid (fun W h => hR ▸ S.out W (i : Int) h hb)
    rw [hR] at hneg
    have hd : decide (R < 0) = false := by simpa using hneg
    have k0 : (0 : Int) ≤ (i : Int) := by omega
    have k1 : (i : Int) < (l.length : Int) := by omega
    clear hR hn htok ar0 ar1 hr ht hsz
    go_enter Tryd.func65, Tryd.ntmps65
    go_wp2_with fail
    refine (S1.out _ HR.out).mono ?_
    rintro e w1 ⟨rfl, b1⟩
    have HB1 := Lib.hid b1
    have d0 : w1.cell? ⟨g, i * 3, none⟩ = some (.int .i64 t.kind) := (HB1.out.cell (p := ⟨g, _, none⟩) hg).trans c0
    have d1 : w1.cell? ⟨g, i * 3 + 1, none⟩ = some (.int .i64 t.num) := (HB1.out.cell (p := ⟨g, _, none⟩) hg).trans c1
    have d2 : w1.cell? ⟨g, i * 3 + 2, none⟩ = some (.string t.name) := (HB1.out.cell (p := ⟨g, _, none⟩) hg).trans c2
    have z1 := HB1.out.size
    clear b1 c0 c1 c2
    go_wp2_with fail
    refine (HA.out _).mono ?_
    rintro e w2 ⟨rfl, b2⟩
    have HB2 := Lib.hid (HB1.out.trans (b2.mono z1))
    clear b2 d0 d1 d2 hd
    go_wp2_with fail
    go_loopw [5, 6, 18] (fun v x k wr => ∃ (j m : Nat) (p : List Int) (y : Int), k = .int .i64 (j : Int) ∧ j + m = r ∧ x = .int .i64 y ∧ y ≤ 1048577 ∧ m + p.length ≤ 4 ∧ p ++ opsFrom l m y = opsFrom l r ((i : Int) + 1) ∧ wr.ownsRow w.heap.size 3 1 v p.length (intV p) ∧ Below w.heap.size w wr)
      (fun _ _ k _ => r - (intOf k).toNat)
    case atStart => exact ⟨0, r, [], (i : Int) + 1, rfl, by omega, rfl, by omega, by simpa using hr4, rfl, World.ownsRow_nil _ _ _ _, HB2.out⟩
    case round =>
      obtain ⟨j, m, p, y, rfl, hjm, rfl, hy, hm4, hres, hown, hbel⟩ := hrel
      have HJ := Lib.hid hjm
      have hj4 : j ≤ r := by omega
      clear hjm
      have HS := Lib.hid hres
      have HB := Lib.hid hbel
      have hB := hbel.size
      clear hres hbel
      by_cases hm0 : 0 < m
      · obtain ⟨m', rfl⟩ : ∃ m', m = m' + 1 := ⟨m - 1, by omega⟩
        have hjr : j < r := by have := HJ.out; omega
        have h63 : p.length + 1 ≤ maxLen := by unfold maxLen; omega
        have hby : (p.length + 1) * 8 ≤ 140737488355328 := by omega
        go_wp2_with (at_builtin; refine wpList_append_own _ rfl _ _ 28 rfl w.heap.size 3 i0 (.int .i64 0) 1 8 Tryd.underlying28 hi hz0 hz1 hz2 rfl (by decide) _ _ _ rfl (hown.alloc _) ⟨wr.heap.size, 0, none⟩ 1 1 [.int .i64 y] rfl rfl ?c1 ?c2 h63 hby ?c5 ?_)
        case c1 => exact cell_one_new _ _ _
        case c2 => intro u hu; simp at hu; subst hu; rfl
        case c5 => simp; omega
        intro v' w3 hown1 hgrow _
        have HO4 := Lib.hid (owns_ints (l := p ++ [y]) hown1 (by rw [intV_append]; rfl))
        have HB3 := Lib.hid (below_app' hown HB.out hB hgrow)
        have HR3 := Lib.hid (HR.out.below HB3.out)
        have z3 := HB3.out.size
        clear hown1 hgrow hown
        obtain ⟨y', hy'⟩ : ∃ y', endZ l y = y' := ⟨_, rfl⟩
        have S3 := Lib.hid (fun W h => hy' ▸ S.out W y h (by omega))
        have HS' : Hid ((p ++ [y]) ++ opsFrom l m' y' = opsFrom l r ((i : Int) + 1)) := Lib.hid (by rw [← hy', List.append_assoc]; exact HS.out)
        have hy'' : y' ≤ 1048577 := by have := endZ_bd l y; omega
        clear hy'
        go_wp2_with fail
        refine (S3.out _ HR3.out).mono ?_
        rintro e w4 ⟨rfl, b4⟩
        have HB4 := Lib.hid (HB3.out.trans (b4.mono z3))
        have HO5 := Lib.hid (owns3_below HO4.out b4)
        clear b4
        go_wp2
        go_roundw
        case rel => exact ⟨j + 1, m', p ++ [y], y', by go_num, by have := HJ.out; omega, rfl, hy'', by simp; omega, HS'.out, HO5.out, HB4.out⟩
        case measure => simp [intOf]; omega
      · have hm00 : m = 0 := by omega
        subst hm00
        have HE : Hid (p = opsFrom l r ((i : Int) + 1)) := Lib.hid (by have := HS.out; simpa [opsFrom] using this)
        have HO4 := Lib.hid hown
        have hjr : ¬ j < r := by have := HJ.out; omega
        clear hown
        go_wp2
        go_ret
        rw [HV.out, ← HE.out]
        exact ⟨_, rfl, HO4.out, HB.out⟩
end Go.Proofs.YtcnnfhcpkbjolaaDoor
