/- The model's Operands; The model's Wrap and Apply; The model's l06Fold and FoldExpr; The program's table of shapes, as its initialiser lays it. -/
import Derived.Test.YtaplbefdijcceaaGreatDoorN28
import Derived.Test.YtaplbefdijcceaaGreatDoorN00
import Derived.Test.YtaplbefdijcceaaGreatDoorRows
import Derived.Test.YtaplbefdijcceaaGreatDoorN02
import Derived.Test.YtaplbefdijcceaaGreatDoorN03
import Derived.Test.YtaplbefdijcceaaGreatDoorN06
import Derived.Test.YtaplbefdijcceaaGreatDoorN01
import Derived.Outline
import Derived.Lib.Hide
import Derived.Deep.QuietTactic
import Derived.Deep.DeepCutAuto
import Derived.BigQuiet
import Derived.WalkSmall
namespace Go.Proofs.YtaplbefdijcceaaGreatDoor
open Go.RowKit Go.Lib
theorem infoI : (Tryz.prog.info? 3).map (fun i => (i.zero, i.size, i.bytes)) = some (some (.int .i64 0), 1, 8) := by kernel_rfl
set_option maxHeartbeats 1000000 in
theorem s_ops (a : Option Addr) (cap : Nat) (l : List TokL) (b : Int) (w : World) (hl : l.length ≤ 1048576) (hr : ReadT w a l) (hn : NamesT l) (hb : b ≤ 9223372036854775807) :
    Calls Tryz.prog 150 #[.slice a l.length cap, .int .i64 b] w (Ints 3 w.heap.size (opsZ l b) w) := by
  obtain ⟨i0, hi, hz0, hz1, hz2⟩ := info_parts infoI
  have S := hid (fun W (x : Int) h hx => s_end a cap l x W hl h hn hx)
  have HR := hid hr
  have HN := hid hn
  clear hr
  by_cases hneg : endZ l b < 0
  · have HV := hid (opsZ_none l b hneg)
    obtain ⟨R, hR⟩ : ∃ R, endZ l b = R := ⟨_, rfl⟩
    have S1 := hid (fun W h => hR ▸ S.out W b h hb)
    rw [hR] at hneg
    clear hR hn
    have hd : decide (R < 0) = true := by simpa using hneg
    go_enter Tryz.func150, Tryz.ntmps150
    go_wp2_with fail
    have HR1 := hid (HR.out.below ((Below.refl _ _).alloc (Nat.le_refl _) (.cells #[] 3)))
    have O1 := World.ownsRow_lit (base := w.heap.size) (e := 3) (size := 1) w #[] 0 (Nat.le_refl _) (by decide) rfl
    have HO1 := hid O1
    clear O1
    refine (S1.out _ HR1.out).mono ?_
    rintro e w1 ⟨rfl, b1⟩
    have HB := hid (((Below.refl _ _).alloc (Nat.le_refl _) (.cells #[] 3)).trans (b1.mono (by simp)))
    have HO2 := hid (owns3_below HO1.out b1)
    clear b1
    go_wp2
    go_ret
    rw [HV.out]
    exact ⟨_, rfl, HO2.out, HB.out⟩
  · have hb0 : 0 ≤ b := by rcases Int.lt_or_le b 0 with h | h; · rw [endZ_neg l b h] at hneg; omega
                           · exact h
    obtain ⟨i, rfl⟩ := Int.eq_ofNat_of_zero_le hb0
    obtain ⟨hil, htok⟩ := endZ_tok l i hneg
    have ar0 := arZ_pos _ htok
    have ar1 := (arZ_bd l[i]).2
    obtain ⟨r, hr⟩ := Int.eq_ofNat_of_zero_le ar0
    have HV := hid (opsZ_some l i hneg hil r hr)
    have hr4 : r ≤ 4 := by omega
    obtain ⟨g, rfl, hg, c0, c1, c2⟩ := HR.out i hil
    have hsz := hn i hil
    have HA : Hid (∀ W : World, Calls Tryz.prog 165 #[.agg #[.int .i64 l[i].kind, .int .i64 l[i].num, .string l[i].name]] W fun e w' => e = .returned (.int .i64 (r : Int)) ∧ Below W.heap.size W w') := hid (fun W => by have := s_arity l[i].kind l[i].num l[i].name W hsz; rw [show arZ ⟨l[i].kind, l[i].num, l[i].name⟩ = arZ l[i] from rfl, hr] at this; exact this)
    obtain ⟨t, ht⟩ : ∃ t, l[i] = t := ⟨_, rfl⟩
    rw [ht] at c0 c1 c2 HA
    obtain ⟨R, hR⟩ : ∃ R, endZ l (i : Int) = R := ⟨_, rfl⟩
    have S1 := hid (fun W h => hR ▸ S.out W (i : Int) h hb)
    rw [hR] at hneg
    have hd : decide (R < 0) = false := by simpa using hneg
    have k0 : (0 : Int) ≤ (i : Int) := by omega
    have k1 : (i : Int) < (l.length : Int) := by omega
    clear hR hn htok ar0 ar1 hr ht hsz
    go_enter Tryz.func150, Tryz.ntmps150
    go_wp2_with fail
    have HR1 := hid (HR.out.below ((Below.refl _ _).alloc (Nat.le_refl _) (.cells #[] 3)))
    have O1 := World.ownsRow_lit (base := w.heap.size) (e := 3) (size := 1) w #[] 0 (Nat.le_refl _) (by decide) rfl
    have HO1 := hid O1
    clear O1
    refine (S1.out _ HR1.out).mono ?_
    rintro e w1 ⟨rfl, b1⟩
    have HB1 := hid (((Below.refl _ _).alloc (Nat.le_refl _) (.cells #[] 3)).trans (b1.mono (by simp)))
    have HO2 := hid (owns3_below HO1.out b1)
    have d0 : w1.cell? ⟨g, i * 3, none⟩ = some (.int .i64 t.kind) := (HB1.out.cell (p := ⟨g, _, none⟩) hg).trans c0
    have d1 : w1.cell? ⟨g, i * 3 + 1, none⟩ = some (.int .i64 t.num) := (HB1.out.cell (p := ⟨g, _, none⟩) hg).trans c1
    have d2 : w1.cell? ⟨g, i * 3 + 2, none⟩ = some (.string t.name) := (HB1.out.cell (p := ⟨g, _, none⟩) hg).trans c2
    have z1 := HB1.out.size
    clear b1 c0 c1 c2
    go_wp2_with fail
    refine (HA.out _).mono ?_
    rintro e w2 ⟨rfl, b2⟩
    have HB2 := hid (HB1.out.trans (b2.mono z1))
    have HO3 := hid (owns3_below HO2.out b2)
    clear b2 d0 d1 d2 hd
    go_wp2_with fail
    go_loopw [5, 6, 7] (fun v x k wr => ∃ (m : Nat) (p : List Int) (y : Int), k = .int .i64 (m : Int) ∧ x = .int .i64 y ∧ y ≤ 1048577 ∧ m + p.length ≤ 4 ∧ p ++ opsFrom l m y = opsFrom l r ((i : Int) + 1) ∧ wr.ownsRow w.heap.size 3 1 v p.length (intV p) ∧ Below w.heap.size w wr)
      (fun _ _ k _ => (intOf k).toNat)
    case atStart => exact ⟨r, [], (i : Int) + 1, rfl, rfl, by omega, by simpa using hr4, rfl, HO3.out, HB2.out⟩
    case round =>
      obtain ⟨m, p, y, rfl, rfl, hy, hm4, hres, hown, hbel⟩ := hrel
      have HS := hid hres
      have HB := hid hbel
      have hB := hbel.size
      clear hres hbel
      by_cases hm0 : 0 < m
      · obtain ⟨m', rfl⟩ : ∃ m', m = m' + 1 := ⟨m - 1, by omega⟩
        have h63 : p.length + 1 ≤ maxLen := by unfold maxLen; omega
        have hby : (p.length + 1) * 8 ≤ 140737488355328 := by omega
        go_wp2_with (at_builtin; refine wpList_append_own _ rfl _ _ 32 rfl w.heap.size 3 i0 (.int .i64 0) 1 8 Tryz.underlying32 hi hz0 hz1 hz2 rfl (by decide) _ _ _ rfl (hown.alloc _) ⟨wr.heap.size, 0, none⟩ 1 1 [.int .i64 y] rfl rfl ?c1 ?c2 h63 hby ?c5 ?_)
        case c1 => exact cell_one_new _ _ _
        case c2 => intro u hu; simp at hu; subst hu; rfl
        case c5 => simp; omega
        intro v' w3 hown1 hgrow _
        have HO4 := hid (owns_ints (l := p ++ [y]) hown1 (by rw [intV_append]; rfl))
        have HB3 := hid (below_app' hown HB.out hB hgrow)
        have HR3 := hid (HR.out.below HB3.out)
        have z3 := HB3.out.size
        clear hown1 hgrow hown
        obtain ⟨y', hy'⟩ : ∃ y', endZ l y = y' := ⟨_, rfl⟩
        have S3 := hid (fun W h => hy' ▸ S.out W y h (by omega))
        have HS' : Hid ((p ++ [y]) ++ opsFrom l m' y' = opsFrom l r ((i : Int) + 1)) := hid (by rw [← hy', List.append_assoc]; exact HS.out)
        have hy'' : y' ≤ 1048577 := by have := endZ_bd l y; omega
        clear hy'
        go_wp2_with fail
        refine (S3.out _ HR3.out).mono ?_
        rintro e w4 ⟨rfl, b4⟩
        have HB4 := hid (HB3.out.trans (b4.mono z3))
        have HO5 := hid (owns3_below HO4.out b4)
        clear b4
        go_wp2
        go_roundw
        case rel => exact ⟨m', p ++ [y], y', by go_num, rfl, hy'', by simp; omega, HS'.out, HO5.out, HB4.out⟩
        case measure => simp [intOf]
      · have hm00 : m = 0 := by omega
        subst hm00
        have HE : Hid (p = opsFrom l r ((i : Int) + 1)) := hid (by have := HS.out; simpa [opsFrom] using this)
        have HO4 := hid hown
        clear hown
        go_wp2
        go_ret
        rw [HV.out, ← HE.out]
        exact ⟨_, rfl, HO4.out, HB.out⟩
end Go.Proofs.YtaplbefdijcceaaGreatDoor

namespace Go.Proofs.YtaplbefdijcceaaGreatDoor
open Go.RowKit Go.Lib
theorem ret_i {k : IntKind} {a b : Int} (h : a = b) : Ending.returned (.int k a) = .returned (.int k b) := by rw [h]
theorem s_wrap (x : Int) (w : World) : Calls Tryz.prog 182 #[.int .i64 x] w fun e w' => e = .returned (.int .i64 (W32 x)) ∧ w = w' := by
  have hb := i64_and32 x
  obtain ⟨hl, hh⟩ := mod32 x
  by_cases h : 2147483647 < x % 4294967296
  · have hr := hid (W32_big x h)
    go_enter Tryz.func182, Tryz.ntmps182
    go_wp2
    go_ret
    exact ⟨ret_i hr.out, rfl⟩
  · have hr := hid (W32_small x h)
    go_enter Tryz.func182, Tryz.ntmps182
    go_wp2
    go_ret
    exact ⟨ret_i hr.out, rfl⟩
set_option maxHeartbeats 400000 in
theorem s_apply (k a b : Int) (w : World) : Calls Tryz.prog 151 #[.int .i64 k, .int .i64 a, .int .i64 b] w fun e w' => e = .returned (.int .i64 (appZ k a b)) ∧ w = w' := by
  have ha0 := W32_lo a
  have ha1 := W32_hi a
  have hb0 := W32_lo b
  have hb1 := W32_hi b
  have hm := hid (mul_bd a b)
  by_cases h2 : k = 2
  · subst h2
    have hr := hid (appZ_add a b)
    go_enter Tryz.func151, Tryz.ntmps151
    go_wp2_with (first | (go_at_call 182; refine (s_wrap _ _).mono ?_; rintro e w' ⟨rfl, rfl⟩))
    go_ret
    exact ⟨ret_i hr.out.symm, rfl⟩
  by_cases h3 : k = 3
  · subst h3
    have hr := hid (appZ_sub a b)
    go_enter Tryz.func151, Tryz.ntmps151
    go_wp2_with (first | (go_at_call 182; refine (s_wrap _ _).mono ?_; rintro e w' ⟨rfl, rfl⟩))
    go_ret
    exact ⟨ret_i hr.out.symm, rfl⟩
  by_cases h4 : k = 4
  · subst h4
    have hr := hid (appZ_mul a b)
    have hm0 := hm.out.1
    have hm1 := hm.out.2
    go_enter Tryz.func151, Tryz.ntmps151
    go_wp2_with (first | (go_at_call 182; refine (s_wrap _ _).mono ?_; rintro e w' ⟨rfl, rfl⟩))
    go_ret
    exact ⟨ret_i hr.out.symm, rfl⟩
  by_cases h5 : k = 5
  · subst h5
    by_cases h : W32 a < W32 b
    · have hr := hid (appZ_lt1 a b h)
      go_enter Tryz.func151, Tryz.ntmps151
      go_wp2_with (first | (go_at_call 182; refine (s_wrap _ _).mono ?_; rintro e w' ⟨rfl, rfl⟩))
      go_ret
      exact ⟨ret_i hr.out.symm, rfl⟩
    · have hr := hid (appZ_lt0 a b h)
      go_enter Tryz.func151, Tryz.ntmps151
      go_wp2_with (first | (go_at_call 182; refine (s_wrap _ _).mono ?_; rintro e w' ⟨rfl, rfl⟩))
      go_ret
      exact ⟨ret_i hr.out.symm, rfl⟩
  by_cases h6 : k = 6
  · subst h6
    by_cases h : W32 a = W32 b
    · have hr := hid (appZ_eq1 a b h)
      have h' : (W32 a == W32 b) = true := by simpa using h
      clear h
      go_enter Tryz.func151, Tryz.ntmps151
      go_wp2_with (first | (go_at_call 182; refine (s_wrap _ _).mono ?_; rintro e w' ⟨rfl, rfl⟩))
      go_ret
      exact ⟨ret_i hr.out.symm, rfl⟩
    · have hr := hid (appZ_eq0 a b h)
      have h' : (W32 a == W32 b) = false := by simpa using h
      clear h
      go_enter Tryz.func151, Tryz.ntmps151
      go_wp2_with (first | (go_at_call 182; refine (s_wrap _ _).mono ?_; rintro e w' ⟨rfl, rfl⟩))
      go_ret
      exact ⟨ret_i hr.out.symm, rfl⟩
  · have hr := hid (appZ_other k a b h2 h3 h4 h5 h6)
    have e2 : (k == 2) = false := by simpa using h2
    have e3 : (k == 3) = false := by simpa using h3
    have e4 : (k == 4) = false := by simpa using h4
    have e5 : (k == 5) = false := by simpa using h5
    have e6 : (k == 6) = false := by simpa using h6
    clear h2 h3 h4 h5 h6
    go_enter Tryz.func151, Tryz.ntmps151
    go_wp2_with (first | (go_at_call 182; refine (s_wrap _ _).mono ?_; rintro e w' ⟨rfl, rfl⟩))
    go_ret
    exact ⟨ret_i hr.out.symm, rfl⟩
end Go.Proofs.YtaplbefdijcceaaGreatDoor

namespace Go.Proofs.YtaplbefdijcceaaGreatDoor
open Go.RowKit Go.Lib
set_option maxRecDepth 100000 in
set_option maxHeartbeats 4000000 in
theorem s_fold (a : Option Addr) (cap : Nat) (l : List TokL) (hl : l.length ≤ 20) (hn : NamesT l) : ∀ (n i : Nat), l.length ≤ i + n → (∃ q, scanN (l.drop i) 1 = some q) → ∀ w : World, ReadT w a l →
    Calls Tryz.prog 109 #[.slice a l.length cap, .int .i64 (i : Int)] w (Toks 49 w.heap.size (foldE (l.drop i)) w) := by
  intro n
  induction n with
  | zero =>
    intro i hi hq
    obtain ⟨q, hq⟩ := hq
    rw [List.drop_eq_nil_of_le (by omega)] at hq
    cases hq
  | succ n ih =>
    intro i hin hq w hr
    obtain ⟨q, hq⟩ := hq
    obtain ⟨hil, htb, q', _, hargs⟩ := scan_one _ _ _ hq
    have hend : ¬ endZ l (i : Int) < 0 := by rw [endZ_nat, hq]; show ¬ (i : Int) + (q : Int) < 0; omega
    have hops := ops_at l (arN l[i]) (i + 1) q' hargs
    have har : arZ l[i] = ((arN l[i] : Nat) : Int) := by have := arZ_pos l[i] htb; unfold arN; omega
    have hoz := opsZ_some l i hend hil (arN l[i]) har
    have hfold := fold_at l i hil
    have hr4 : arN l[i] ≤ 4 := by have := (arZ_bd l[i]).2; omega
    have S := hid (fun W h => s_ops a cap l (i : Int) W (by omega) h hn (by omega))
    have hrl : (opsZ l (i : Int)).length = arN l[i] := by rw [hoz, opsFrom_length]
    rw [show ((i + 1 : Nat) : Int) = (i : Int) + 1 from by omega, ← hoz] at hops
    obtain ⟨R, hR⟩ : ∃ R, opsZ l (i : Int) = R := ⟨_, rfl⟩
    rw [hR] at hops hrl S
    obtain ⟨SG, hSG⟩ : ∃ SG, segs (l.drop (i + 1)) = SG := ⟨_, rfl⟩
    rw [hSG] at hops hfold
    have hlen : ∀ t j, (outF t SG j).length ≤ 21 := fun t j => by
      have := outF_len t (l.drop (i + 1)) j
      rw [hSG, List.length_drop] at this
      omega
    have HLEN := hid hlen
    have HOPS := hid hops
    have HFOLD := hid hfold
    have HIH := hid ih
    have HR := hid hr
    obtain ⟨g, rfl, hg, c0, c1, c2⟩ := hr i hil
    obtain ⟨t, ht⟩ : ∃ t, l[i] = t := ⟨_, rfl⟩
    rw [ht] at c0 c1 c2 HOPS HFOLD hrl hr4
    have HRL := hid hrl
    have k0 : (0 : Int) ≤ (i : Int) := by omega
    have k1 : (i : Int) < (l.length : Int) := by omega
    obtain ⟨I0, hi, hz0, hz1, hz2⟩ := info_parts infoT
    clear ih hq hargs hend hoz hR hSG hops hfold hlen hr ht htb har hil hn hrl
    go_enter Tryz.func109, Tryz.ntmps109
    go_wp2_with fail
    have HB1 : Hid (Below w.heap.size w (w.alloc (.cells #[.int .i64 t.kind, .int .i64 t.num, .string t.name] 49))) := hid ((Below.refl _ _).alloc (Nat.le_refl _) _)
    have HO1 := hid (tok_row (T := 49) w t (Nat.le_refl w.heap.size))
    have hs1 : (w.alloc (.cells #[.int .i64 t.kind, .int .i64 t.num, .string t.name] 49)).heap.size = w.heap.size + 1 := by simp
    refine (S.out _ (HR.out.below HB1.out)).mono ?_
    rintro e w2 ⟨v0, rfl, O2, b2⟩
    obtain ⟨p0, d0, rfl⟩ := owns3_shape O2
    have HI2 := hid (owns_lower O2 (show w.heap.size ≤ _ by omega))
    have HO2 := hid (owns3_below HO1.out b2)
    have HB2 : Hid (Below w.heap.size w w2) := hid (HB1.out.trans (b2.mono (by omega)))
    clear b2 O2 HO1 HB1 hs1
    go_wp2_with fail
    go_loopw [5, 7] (fun o k wr => ∃ j : Nat, j ≤ arN t ∧ k = .int .i64 (j : Int) ∧ wr.ownsRow w.heap.size 49 3 o (outF t SG j).length (toksV (outF t SG j)) ∧ wr.ownsRow w.heap.size 3 1 (.slice p0 R.length d0) R.length (intV R) ∧ Below w.heap.size w wr) (fun _ k _ => arN t - (RowKit.intOf k).toNat)
    case atStart => exact ⟨0, Nat.zero_le _, rfl, by rw [outF_zero]; exact HO2.out, HI2.out, HB2.out⟩
    case round =>
      obtain ⟨j, hj, rfl, hown, hint, hbel⟩ := hrel
      have HO := hid hown
      have HI := hid hint
      have HB := hid hbel
      have hB := hbel.size
      clear hown hint hbel
      by_cases hlt : j < arN t
      · obtain ⟨x, hx, hxq, hix, hxl, hnext⟩ := HOPS.out j hlt
        have hjR : j < R.length := by have := HRL.out; omega
        have hxe : R[j] = (x : Int) := by rw [List.getElem?_eq_getElem hjR] at hx; exact Option.some.inj hx
        obtain ⟨gi, rfl, hgi, ci⟩ := readI_of HI.out j hjR
        rw [hxe] at ci
        have CALL := hid (HIH.out x (by omega) hxq wr (HR.out.below HB.out))
        have hpos : 0 < (foldE (l.drop x)).length := by
          obtain ⟨q, hq⟩ := hxq
          have h1 := segs_scan _ 1 _ hq
          obtain ⟨rest, hrest⟩ := segs_head (l.drop x) (by omega)
          exact segs_pos (l.drop x) _ (by rw [hrest]; exact List.mem_cons_self ..)
        have hfl : (foldE (l.drop x)).length ≤ 20 := by have := foldE_len (l.drop x); rw [List.length_drop] at this; omega
        have HNX := hid (outF_next t SG j _ hnext)
        obtain ⟨X, hX⟩ : ∃ X, foldE (l.drop x) = X := ⟨_, rfl⟩
        rw [hX] at CALL hpos hfl HNX
        have hlen := HLEN.out t j
        have k2 : (0 : Int) ≤ (j : Int) := by omega
        have k3 : (j : Int) < (R.length : Int) := by omega
        clear hx hxe hnext hX hxq hjR
        go_wp2_with fail
        refine CALL.out.mono ?_
        rintro e w3 ⟨v3, rfl, O3, b3⟩
        obtain ⟨g3, cap3, rfl, hg3, hg3', n3⟩ := toks_src O3 hpos
        have HN3 := hid n3
        have HOa := hid (owns3_below HO.out b3)
        have HIa := hid (owns3_below HI.out b3)
        have HBa := hid (HB.out.trans (b3.mono hB))
        have za := HBa.out.size
        obtain ⟨Q, hQ⟩ : ∃ Q, outF t SG j = Q := ⟨_, rfl⟩
        rw [hQ] at HOa HNX hlen
        have h63 : Q.length + X.length ≤ maxLen := by unfold maxLen; omega
        have hby : (Q.length + X.length) * 32 ≤ 140737488355328 := by omega
        clear b3 O3 n3 ci hQ
        go_wp2_with (at_builtin; refine wpList_append_own _ rfl _ _ 40 rfl w.heap.size 49 I0 _ 3 32 Tryz.underlying40 hi hz0 hz1 hz2 rfl (by decide) _ _ _ rfl HOa.out ⟨g3, 0, none⟩ X.length cap3 (toksV X) rfl ?c0 HN3.out ?c2 h63 hby za ?_)
        case c0 => exact toksV_length X
        case c2 => exact toks_cells1 X
        intro v' w4 hown4 hgrow4 _
        have HO4 := hid (owns_toks (l := Q ++ X) hown4 (by rw [toksV_append]))
        have HI4 := hid (HIa.out.kept hgrow4 (rows_apart HIa.out HOa.out (by decide)))
        have HB4 : Hid (Below w.heap.size w w4) := hid (HBa.out.grown hgrow4 za (fun k hk => (HOa.out.lt k hk).1))
        clear hown4 hgrow4
        go_wp2
        go_roundw
        case rel => exact ⟨j + 1, by omega, by go_num, by rw [HNX.out]; exact HO4.out, HI4.out, HB4.out⟩
        case measure => simp [RowKit.intOf]; omega
      · have hjj : j = arN t := by omega
        subst hjj
        have hRl := HRL.out
        have c0' := (HB.out.cell (p := ⟨g, i * 3, none⟩) hg).trans c0
        have c1' := (HB.out.cell (p := ⟨g, i * 3 + 1, none⟩) hg).trans c1
        have c2' := (HB.out.cell (p := ⟨g, i * 3 + 2, none⟩) hg).trans c2
        obtain ⟨O, hO⟩ : ∃ O, (SG.take (arN t)).flatten = O := ⟨_, rfl⟩
        have e : outF t SG (arN t) = t :: O := by unfold outF; rw [hO]
        rw [e] at HO HFOLD
        obtain ⟨go, co, rfl, hgo, _, hcs⟩ := toks_src HO.out (by simp)
        have HCS := hid hcs
        have HOA := hid (HO.out.alloc (.cells #[.int .i64 t.kind, .int .i64 t.num, .string t.name] 49))
        have HBA : Hid (Below w.heap.size w (wr.alloc (.cells #[.int .i64 t.kind, .int .i64 t.num, .string t.name] 49))) := hid (HB.out.alloc hB _)
        have X0 := heap_alloc_new wr (.cells #[.int .i64 t.kind, .int .i64 t.num, .string t.name] 49)
        have e0 : (wr.alloc (.cells #[.int .i64 t.kind, .int .i64 t.num, .string t.name] 49)).cell? ⟨wr.heap.size, 0, none⟩ = some (.int .i64 t.kind) := (blk X0).1 0 _ rfl
        clear hcs e hO X0 c0 c1 c2 hlt hj HOPS HIH
        by_cases hk : 2 ≤ t.kind ∧ t.kind ≤ 6
        · have SI : Hid (∀ W : World, Calls Tryz.prog 78 #[.int .i64 t.kind, .int .i64 2, .int .i64 6] W fun e w' => e = .returned (.bool true) ∧ W = w') := hid (fun W => by have := s_in t.kind 2 6 W; rw [decide_eq_true hk.1, decide_eq_true hk.2] at this; exact this)
          have HK := hid hk
          clear hk
          by_cases h3 : (t :: O).length = 3
          · obtain ⟨x, y, rfl⟩ : ∃ x y, O = [x, y] := by
              match O, h3 with
              | [x, y], _ => exact ⟨x, y, rfl⟩
            have m1 : wr.cell? ⟨go, 3, none⟩ = some (.int .i64 x.kind) := by have := HCS.out 3 _ rfl; rwa [add_plain, Nat.zero_add] at this
            have m2 : wr.cell? ⟨go, 4, none⟩ = some (.int .i64 x.num) := by have := HCS.out 4 _ rfl; rwa [add_plain, Nat.zero_add] at this
            have m3 : wr.cell? ⟨go, 6, none⟩ = some (.int .i64 y.kind) := by have := HCS.out 6 _ rfl; rwa [add_plain, Nat.zero_add] at this
            have m4 : wr.cell? ⟨go, 7, none⟩ = some (.int .i64 y.num) := by have := HCS.out 7 _ rfl; rwa [add_plain, Nat.zero_add] at this
            have hN : (t :: [x, y]).length = 3 := rfl
            rw [hN] at HOA ⊢
            by_cases hx : x.kind = 0
            · by_cases hy : y.kind = 0
              · rw [hx] at m1
                rw [hy] at m3
                have HX := hid hx
                have HY := hid hy
                have SA := hid (fun W => s_apply t.kind x.num y.num W)
                obtain ⟨V, hV⟩ : ∃ V, appZ t.kind x.num y.num = V := ⟨_, rfl⟩
                rw [hV] at SA
                have HV := hid hV
                have E0 := hid e0
                have M2 : Hid ((wr.alloc (.cells #[.int .i64 t.kind, .int .i64 t.num, .string t.name] 49)).cell? ⟨go, 4, none⟩ = some (.int .i64 x.num)) := hid (((Below.refl wr.heap.size wr).alloc (Nat.le_refl _) _).cell (p := ⟨go, 4, none⟩) hgo |>.trans m2)
                have M4 : Hid ((wr.alloc (.cells #[.int .i64 t.kind, .int .i64 t.num, .string t.name] 49)).cell? ⟨go, 7, none⟩ = some (.int .i64 y.num)) := hid (((Below.refl wr.heap.size wr).alloc (Nat.le_refl _) _).cell (p := ⟨go, 7, none⟩) hgo |>.trans m4)
                clear hx hy hV h3 hN
                by_cases hv : 0 ≤ V ∧ V ≤ 999
                · have SV : Hid (∀ W : World, Calls Tryz.prog 78 #[.int .i64 V, .int .i64 0, .int .i64 999] W fun e w' => e = .returned (.bool true) ∧ W = w') := hid (fun W => by have := s_in V 0 999 W; rw [decide_eq_true hv.1, decide_eq_true hv.2] at this; exact this)
                  have HNO : Hid (fw [t, x, y] = [foldT V]) := hid (by rw [fw_yes t x y ⟨HK.out.1, HK.out.2, HX.out, HY.out, by rw [HV.out]; exact hv.1, by rw [HV.out]; exact hv.2⟩, HV.out])
                  clear hv
                  go_wp2_with (first | (go_at_call 78; refine (SI.out _).mono ?_; rintro e w' ⟨rfl, rfl⟩))
                  go_quiet ((go_at_call 151; exact Calls.quiet_of_same ((SA.out _).mono (fun e w' h => ⟨h.1, h.2.symm⟩))))
                  go_wp2_with (first | (go_at_call 78; refine (SV.out _).mono ?_; rintro e w' ⟨rfl, rfl⟩))
                  go_ret
                  rw [HFOLD.out, HNO.out]
                  have HT := tok_row (B := w.heap.size) (T := 49) ((wr.alloc (.cells #[.int .i64 t.kind, .int .i64 t.num, .string t.name] 49)).drewN nq) (foldT V) (below_drw HBA.out nq).size
                  rw [show ((wr.alloc (.cells #[.int .i64 t.kind, .int .i64 t.num, .string t.name] 49)).drewN nq).heap.size = wr.heap.size + 1 from by show (wr.alloc (.cells #[.int .i64 t.kind, .int .i64 t.num, .string t.name] 49)).heap.size = _; simp] at HT
                  exact ⟨_, rfl, HT, (below_drw HBA.out nq).alloc (below_drw HBA.out nq).size _⟩
                · have SV : Hid (∀ W : World, Calls Tryz.prog 78 #[.int .i64 V, .int .i64 0, .int .i64 999] W fun e w' => e = .returned (.bool false) ∧ W = w') := hid (fun W => by have := s_in V 0 999 W; rw [show (decide (0 ≤ V) && decide (V ≤ 999)) = false from by rw [Bool.and_eq_false_iff]; by_cases h : 0 ≤ V; exact .inr (decide_eq_false (fun h' => hv ⟨h, h'⟩)); exact .inl (decide_eq_false h)] at this; exact this)
                  have HNO := hid (fw_no t x y (fun h => hv (by rw [HV.out] at h; exact ⟨h.2.2.2.2.1, h.2.2.2.2.2⟩)))
                  clear hv
                  go_wp2_with (first | (go_at_call 78; refine (SI.out _).mono ?_; rintro e w' ⟨rfl, rfl⟩))
                  go_quiet ((go_at_call 151; exact Calls.quiet_of_same ((SA.out _).mono (fun e w' h => ⟨h.1, h.2.symm⟩))))
                  go_wp2_with (first | (go_at_call 78; refine (SV.out _).mono ?_; rintro e w' ⟨rfl, rfl⟩))
                  go_ret
                  rw [HFOLD.out, HNO.out]
                  exact ⟨_, rfl, owns_drw HOA.out _, below_drw HBA.out _⟩
              · have HNO := hid (fw_no t x y (fun h => hy h.2.2.2.1))
                have hd : (y.kind == 0) = false := by simpa using hy
                rw [hx] at m1
                clear hy hx h3 hN
                go_wp2_with (first | (go_at_call 78; refine (SI.out _).mono ?_; rintro e w' ⟨rfl, rfl⟩))
                go_ret
                rw [HFOLD.out, HNO.out]
                exact ⟨_, rfl, HOA.out, HBA.out⟩
            · have HNO := hid (fw_no t x y (fun h => hx h.2.2.1))
              have hd : (x.kind == 0) = false := by simpa using hx
              clear hx h3 hN
              go_wp2_with (first | (go_at_call 78; refine (SI.out _).mono ?_; rintro e w' ⟨rfl, rfl⟩))
              go_ret
              rw [HFOLD.out, HNO.out]
              exact ⟨_, rfl, HOA.out, HBA.out⟩
          · have HNO := hid (fw_len (t :: O) h3)
            obtain ⟨N, hN⟩ : ∃ N, (t :: O).length = N := ⟨_, rfl⟩
            rw [hN] at HOA h3
            have HN := hid hN
            have hd : ((N : Int) == 3) = false := by simp; omega
            clear h3 hN
            rw [HN.out]
            go_wp2_with (first | (go_at_call 78; refine (SI.out _).mono ?_; rintro e w' ⟨rfl, rfl⟩))
            go_ret
            rw [HFOLD.out, HNO.out]
            exact ⟨_, rfl, by rw [HN.out]; exact HOA.out, HBA.out⟩
        · have SI : Hid (∀ W : World, Calls Tryz.prog 78 #[.int .i64 t.kind, .int .i64 2, .int .i64 6] W fun e w' => e = .returned (.bool false) ∧ W = w') := hid (fun W => by have := s_in t.kind 2 6 W; rw [show (decide (2 ≤ t.kind) && decide (t.kind ≤ 6)) = false from by rw [Bool.and_eq_false_iff]; by_cases h : 2 ≤ t.kind; exact .inr (decide_eq_false (fun h' => hk ⟨h, h'⟩)); exact .inl (decide_eq_false h)] at this; exact this)
          have HNO : Hid (fw (t :: O) = t :: O) := hid (by
            by_cases h3 : (t :: O).length = 3
            · obtain ⟨x, y, rfl⟩ : ∃ x y, O = [x, y] := by
                match O, h3 with
                | [x, y], _ => exact ⟨x, y, rfl⟩
              exact fw_no t x y (fun h => hk ⟨h.1, h.2.1⟩)
            · exact fw_len _ h3)
          clear hk
          go_wp2_with (first | (go_at_call 78; refine (SI.out _).mono ?_; rintro e w' ⟨rfl, rfl⟩))
          go_ret
          rw [HFOLD.out, HNO.out]
          exact ⟨_, rfl, HOA.out, HBA.out⟩
set_option maxHeartbeats 400000 in
theorem s_foldExpr (a : Option Addr) (cap : Nat) (l : List TokL) (w : World) (hl : l.length ≤ 1048576) (hr : ReadT w a l) (hn : NamesT l) :
    Calls Tryz.prog 54 #[.slice a l.length cap] w (Toks 49 w.heap.size (if exprB l = true then foldE l else []) w) := by
  have S := hid (s_exprok a cap l w hl hr hn)
  have HR := hid hr
  cases hb : exprB l with
  | false =>
    rw [hb] at S
    clear hb hr hn
    go_enter Tryz.func54, Tryz.ntmps54
    go_wp2_with fail
    refine S.out.mono ?_
    rintro e w1 ⟨rfl, b1⟩
    have HB := hid (b1.alloc b1.size (.cells #[] 49))
    have HO := hid (World.ownsRow_lit (base := w.heap.size) (e := 49) (size := 3) w1 #[] 0 b1.size (by decide) rfl)
    clear b1
    go_wp2
    go_ret
    exact ⟨_, rfl, HO.out, HB.out⟩
  | true =>
    rw [hb] at S
    obtain ⟨h20, hsc⟩ := (exprB_scan l).1 hb
    have F := hid (fun W h => s_fold a cap l h20 hn l.length 0 (by omega) ⟨_, by rw [List.drop_zero]; exact hsc⟩ W h)
    rw [List.drop_zero] at F
    clear hb hr hn hsc
    go_enter Tryz.func54, Tryz.ntmps54
    go_wp2_with fail
    refine S.out.mono ?_
    rintro e w1 ⟨rfl, b1⟩
    have HR1 := hid (HR.out.below b1)
    have HB := hid b1
    have z1 := b1.size
    clear b1
    go_wp2_with fail
    refine (F.out _ HR1.out).mono ?_
    rintro e w2 ⟨v, rfl, O, b2⟩
    have HO := hid (owns_lower O z1)
    have HB2 := hid (HB.out.trans (b2.mono z1))
    clear O b2
    go_wp2
    go_ret
    exact ⟨_, rfl, HO.out, HB2.out⟩
end Go.Proofs.YtaplbefdijcceaaGreatDoor

namespace Go.Proofs.YtaplbefdijcceaaGreatDoor
open Go.RowKit Go.Lib
theorem gSh : Tryz.prog.globalNamed "loop.example/g03314/impl.lineShapes" = some 0 := by kernel_rfl
theorem tSh : (Tryz.prog.globals[0]?).map (·.type) = some 200 := by kernel_rfl
theorem cSh : Tryz.prog.cellsOf 200 = 8 * 4 := by kernel_rfl
theorem cSh1 : Tryz.prog.cellsOf 199 = 4 := by kernel_rfl
theorem cStr : Tryz.prog.cellsOf 9 = 1 := by kernel_rfl
theorem cBool : Tryz.prog.cellsOf 4 = 1 := by kernel_rfl
def Shapes (w : World) : Prop := ∃ cs : List Value, w.var? Tryz.prog "loop.example/g03314/impl.lineShapes" = some cs.toArray ∧
  ∀ k : Nat, k < 8 → cs[k * 4]? = some (.string (wordZ (k : Int))) ∧ cs[k * 4 + 1]? = some (.bool (namedB (k : Int))) ∧ cs[k * 4 + 2]? = some (.bool (decide ((k : Int) = 0))) ∧ cs[k * 4 + 3]? = some (.bool (exprK (k : Int)))
theorem laid_is : (Rows.laid_loop_example_g03314_impl_lineShapes : DataW Unit) = .agg (shapesT.map row4D) := by rfl
theorem shapes_head {rest : List (String × DataW Unit)} {W : World} (h : laidMet Tryz.prog (("loop.example/g03314/impl.lineShapes", Rows.laid_loop_example_g03314_impl_lineShapes) :: rest) W) : Shapes W := by
  obtain ⟨ps, ⟨g', t', cs, fuel, p, q, hg', ht', hvar, hd, _, _⟩, _⟩ := h
  obtain rfl := Option.some.inj (tSh.symm.trans ((Option.some.inj (gSh.symm.trans hg')) ▸ ht'))
  rw [laid_is] at hd
  have hc := cells_of_rows4 (P := Tryz.prog) Tryz.underlying200 Tryz.underlying199 cSh1 cSh Tryz.underlying9 Tryz.underlying4 Tryz.underlying4 Tryz.underlying4 ⟨rfl, cStr⟩ ⟨rfl, cBool⟩ ⟨rfl, cBool⟩ ⟨rfl, cBool⟩ hd
  refine ⟨_, hvar, fun k hk => ?_⟩
  obtain ⟨⟨s, c0, e0⟩, c1, c2, c3⟩ := hc k _ (shapes_at k hk)
  exact ⟨by rw [c0, bl_eq e0], c1, c2, c3⟩
theorem Shapes.on {w w' : World} (h : Shapes w) (hb : Below w.heap.size w w') : Shapes w' := by
  obtain ⟨cs, hv, hc⟩ := h
  refine ⟨cs, var?_below hb gSh ?_ hv, hc⟩
  have := World.var?_cell gSh hv 0
  have h0 := (hc 0 (by omega)).1
  simp only [Nat.zero_mul] at h0
  exact World.block_lt_of_cell? w _ (this.trans (by simpa using h0))
theorem Shapes.at {w : World} (h : Shapes w) (k : Nat) (hk : k < 8) :
    w.cell? ⟨0, k * 4, none⟩ = some (.string (wordZ (k : Int))) ∧ w.cell? ⟨0, k * 4 + 1, none⟩ = some (.bool (namedB (k : Int))) ∧
    w.cell? ⟨0, k * 4 + 2, none⟩ = some (.bool (decide ((k : Int) = 0))) ∧ w.cell? ⟨0, k * 4 + 3, none⟩ = some (.bool (exprK (k : Int))) := by
  obtain ⟨cs, hv, hc⟩ := h
  have hv' := World.var?_cell gSh hv
  obtain ⟨c0, c1, c2, c3⟩ := hc k hk
  exact ⟨(hv' _).trans (by simpa using c0), (hv' _).trans (by simpa using c1), (hv' _).trans (by simpa using c2), (hv' _).trans (by simpa using c3)⟩
end Go.Proofs.YtaplbefdijcceaaGreatDoor
