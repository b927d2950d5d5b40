/- What performs an instruction, the program's: a word is looked for, read, written, pushed, popped; The program's Wrap and Apply. -/
import Derived.Test.YtakgjlpgcepnkaaGreatRows
import Derived.Test.YtakgjlpgcepnkaaGreatI15
import Derived.Test.YtakgjlpgcepnkaaGreatI00
import Derived.Outline
import Derived.Lib.Hide
import Derived.WalkSmall
import Derived.Deep.QuietTactic
import Derived.BigQuiet
import Derived.Deep.RegionHeld3
/-! What performs an instruction, the program's: a word is looked for, read, written, pushed, popped -/
namespace Go.Proofs.YtakgjlpgcepnkaaGreat
open Go.RowKit Go.Lib

theorem MiAt.word {B cb mb : Nat} {w : World} {ev ov : Value} {s : McS} {g n c : Nat} (h : MiAt B cb mb w ev (.slice (some ⟨g, 0, none⟩) n c) ov s) (k : Nat) (hk : k < 1200) : w.cell? ⟨g, k, none⟩ = some (.int .i64 (s.1.st.getD k 0)) ∧ w.frozen? ⟨g, k, none⟩ = false ∧ n = 1200 := by
  have hn : n = s.1.st.length := by
    rcases h.mc.st.2 with ⟨e, _⟩ | ⟨_, _, _, e, _⟩
    · cases e
    · injection e
  have hl := h.mc.ln
  subst hn
  refine ⟨?_, h.mc.st.frozenAt k, hl⟩
  rw [h.mc.st.cellAt k (by omega)]
  have hkl : k < s.1.st.length := by omega
  simp [intV, List.getD, hkl]
theorem reach_st (s : McS) (a : Int) : (reachI s a).1 = s.1 := rfl
theorem reach_yes {s : McS} {a : Int} (h : (reachI s a).2 = false) : s.2 = false ∧ 0 ≤ a ∧ a < 1200 := by
  unfold reachI at h
  simp only [Bool.or_eq_false_iff, decide_eq_false_iff_not] at h
  exact ⟨h.1.1, by omega, by omega⟩
theorem loadI_yes {s : McS} {a : Int} (h : (reachI s a).2 = false) : loadIM s a = (s.1.st.getD a.toNat 0, reachI s a) := by unfold loadIM; rw [if_neg (by rw [h]; decide)]
theorem loadI_not {s : McS} {a : Int} (h : (reachI s a).2 = true) : loadIM s a = (0, reachI s a) := by unfold loadIM; rw [if_pos h]
theorem storeI_yes {s : McS} {a v : Int} (h : (reachI s a).2 = false) : storeIM s a v = ({ s.1 with st := s.1.st.set a.toNat v }, (reachI s a).2) := by unfold storeIM; rw [if_neg (by rw [h]; decide)]
theorem storeI_not {s : McS} {a v : Int} (h : (reachI s a).2 = true) : storeIM s a v = reachI s a := by unfold storeIM; rw [if_pos h]
section
variable {B cb mb : Nat} {w : World} {ev sv ov : Value} {s : McS}
set_option maxRecDepth 100000 in
set_option maxHeartbeats 1000000 in
theorem i_reaches (h : MiAt B cb mb w ev sv ov s) (a : Int) : Calls Tryz.prog 89 #[.pointer (some ⟨cb, 0, none⟩), .int .i64 a] w (MiR B cb mb ev sv ov (.bool (!(reachI s a).2)) (reachI s a) w) := by
  obtain ⟨m, f⟩ := s
  have HF := Lib.hid (fun b => h.setF b)
  obtain ⟨e0, e1, e2, g2⟩ := h.cells
  dsimp only at e2 HF
  clear h
  have fin : Hid (∀ b, reachI (m, f) a = (m, b) → MiR B cb mb ev sv ov (.bool (!(reachI (m, f) a).2)) (reachI (m, f) a) w (.returned (.bool (!b))) (w.setCell ⟨cb, 2, none⟩ (.bool b))) := Lib.hid (fun b hb => by
    rw [hb]
    exact ⟨rfl, Lib.hid (HF.out b).1, Lib.hid (HF.out b).2⟩)
  clear HF
  cases f with
  | true =>
    have HB := Lib.hid (fin.out true (by simp [reachI]))
    clear fin
    go_enter Tryz.func89, Tryz.ntmps89
    go_wp2_with fail
    go_ret
    exact HB.out
  | false =>
    by_cases h0 : a < 0
    · have HB := Lib.hid (fin.out true (by simp [reachI, h0]))
      have d0 : decide (a < 0) = true := decide_eq_true h0
      clear fin h0
      go_enter Tryz.func89, Tryz.ntmps89
      go_wp2_with fail
      go_ret
      exact HB.out
    · have d0 : decide (a < 0) = false := decide_eq_false h0
      by_cases h1 : 1200 ≤ a
      · have HB := Lib.hid (fin.out true (by simp [reachI, h1]))
        have d1 : decide (1200 ≤ a) = true := decide_eq_true h1
        clear fin h0 h1
        go_enter Tryz.func89, Tryz.ntmps89
        go_wp2_with fail
        go_ret
        exact HB.out
      · have HB := Lib.hid (fin.out false (by simp [reachI, h0, h1]))
        have d1 : decide (1200 ≤ a) = false := decide_eq_false h1
        clear fin h0 h1
        go_enter Tryz.func89, Tryz.ntmps89
        go_wp2_with fail
        go_ret
        exact HB.out
set_option maxRecDepth 100000 in
set_option maxHeartbeats 1000000 in
theorem i_needsRoom (h : MiAt B cb mb w ev sv ov s) (n : Int) : Calls Tryz.prog 107 #[.pointer (some ⟨cb, 0, none⟩), .int .i64 n] w (MiR B cb mb ev sv ov (.tuple #[]) (needI s n) w) := by
  obtain ⟨m, f⟩ := s
  have HF := Lib.hid (fun b => h.setF b)
  obtain ⟨e0, e1, e2, g2⟩ := h.cells
  obtain ⟨_, m1, _⟩ := h.mc.cells
  dsimp only at e2 HF m1
  clear h
  have fin : Hid (∀ b, needI (m, f) n = (m, b) → MiR B cb mb ev sv ov (.tuple #[]) (needI (m, f) n) w (.returned (.tuple #[])) (w.setCell ⟨cb, 2, none⟩ (.bool b))) := Lib.hid (fun b hb => by
    rw [hb]
    exact ⟨rfl, Lib.hid (HF.out b).1, Lib.hid (HF.out b).2⟩)
  clear HF
  cases f with
  | true =>
    have HB := Lib.hid (fin.out true (by simp [needI]))
    clear fin
    go_enter Tryz.func107, Tryz.ntmps107
    go_wp2_with fail
    go_end0
    exact HB.out
  | false =>
    by_cases h0 : m.sp < n
    · have HB := Lib.hid (fin.out true (by simp [needI, h0]))
      have d0 : decide (m.sp < n) = true := decide_eq_true h0
      clear fin h0
      go_enter Tryz.func107, Tryz.ntmps107
      go_wp2_with fail
      go_end0
      exact HB.out
    · have HB := Lib.hid (fin.out false (by simp [needI, h0]))
      have d0 : decide (m.sp < n) = false := decide_eq_false h0
      clear fin h0
      go_enter Tryz.func107, Tryz.ntmps107
      go_wp2_with fail
      go_end0
      exact HB.out
set_option maxRecDepth 100000 in
set_option maxHeartbeats 1000000 in
theorem i_load (h : MiAt B cb mb w ev sv ov s) (a : Int) : Calls Tryz.prog 53 #[.pointer (some ⟨cb, 0, none⟩), .int .i64 a] w (MiR B cb mb ev sv ov (.int .i64 (loadIM s a).1) (loadIM s a).2 w) := by
  have R := Lib.hid (i_reaches h a)
  obtain ⟨g, c, rfl⟩ := own_forms h.mc.st (by rw [h.mc.ln]; omega)
  rw [h.mc.ln] at R ⊢
  clear h
  cases hr : (reachI s a).2 with
  | true =>
    rw [loadI_not hr]
    rw [hr] at R
    clear hr
    go_enter Tryz.func53, Tryz.ntmps53
    go_wp2_with fail
    refine R.out.mono ?_
    rintro e w1 ⟨rfl, HC, HS⟩
    go_wp2
    go_ret
    exact ⟨rfl, HC, HS⟩
  | false =>
    rw [loadI_yes hr]
    rw [hr] at R
    obtain ⟨_, h0, h1⟩ := reach_yes hr
    obtain ⟨k, rfl⟩ : ∃ k : Nat, a = (k : Int) := ⟨a.toNat, (Int.toNat_of_nonneg h0).symm⟩
    rw [Int.toNat_natCast]
    clear hr
    go_enter Tryz.func53, Tryz.ntmps53
    go_wp2_with fail
    refine R.out.mono ?_
    rintro e w1 ⟨rfl, HC, HS⟩
    obtain ⟨e0, _⟩ := HC.out.cells
    obtain ⟨_, _, _, m3, _⟩ := HC.out.mc.cells
    have ek := (HC.out.word k (by omega)).1
    rw [reach_st] at ek
    go_wp2
    go_ret
    exact ⟨rfl, HC, HS⟩
set_option maxRecDepth 100000 in
set_option maxHeartbeats 1000000 in
theorem i_storeM (h : MiAt B cb mb w ev sv ov s) (a v : Int) : Calls Tryz.prog 104 #[.pointer (some ⟨cb, 0, none⟩), .int .i64 a, .int .i64 v] w (MiR B cb mb ev sv ov (.tuple #[]) (storeIM s a v) w) := by
  have R := Lib.hid (i_reaches h a)
  obtain ⟨g, c, rfl⟩ := own_forms h.mc.st (by rw [h.mc.ln]; omega)
  rw [h.mc.ln] at R ⊢
  clear h
  cases hr : (reachI s a).2 with
  | true =>
    rw [storeI_not hr]
    rw [hr] at R
    clear hr
    go_enter Tryz.func104, Tryz.ntmps104
    go_wp2_with fail
    refine R.out.mono ?_
    rintro e w1 ⟨rfl, HC, HS⟩
    go_wp2
    go_end0
    exact ⟨rfl, HC, HS⟩
  | false =>
    rw [storeI_yes hr]
    have HRF : Hid ((reachI s a).2 = false) := Lib.hid hr
    rw [hr] at R
    obtain ⟨_, h0, h1⟩ := reach_yes hr
    obtain ⟨k, rfl⟩ : ∃ k : Nat, a = (k : Int) := ⟨a.toNat, (Int.toNat_of_nonneg h0).symm⟩
    rw [Int.toNat_natCast]
    clear hr
    go_enter Tryz.func104, Tryz.ntmps104
    go_wp2_with fail
    refine R.out.mono ?_
    rintro e w1 ⟨rfl, HC, HS⟩
    obtain ⟨e0, _⟩ := HC.out.cells
    obtain ⟨_, _, _, m3, _⟩ := HC.out.mc.cells
    obtain ⟨ek, gk, _⟩ := HC.out.word k (by omega)
    have HW := Lib.hid (HC.out.setS k v)
    go_wp2
    go_end0
    exact ⟨rfl, Lib.hid HW.out.1, Lib.hid (HS.out.trans HW.out.2)⟩
set_option maxRecDepth 100000 in
set_option maxHeartbeats 1000000 in
theorem i_push (h : MiAt B cb mb w ev sv ov s) (v : Int) : Calls Tryz.prog 103 #[.pointer (some ⟨cb, 0, none⟩), .int .i64 v] w (MiR B cb mb ev sv ov (.tuple #[]) (pushI s v) w) := by
  unfold pushI
  obtain ⟨sp, hsp⟩ : ∃ x, s.1.sp = x := ⟨_, rfl⟩
  obtain ⟨q, hq⟩ : ∃ x, IntKind.i64.wrap (sp - 1) = x := ⟨_, rfl⟩
  rw [hsp, hq]
  have HW := Lib.hid (h.setSp q)
  have R := Lib.hid (i_storeM HW.out.1 q v)
  obtain ⟨e0, _⟩ := h.cells
  obtain ⟨_, m1, _, _, _, _, _, gm⟩ := h.mc.cells
  have hlt := h.mc.lt
  rw [hsp] at m1
  clear h hsp
  go_enter Tryz.func103, Tryz.ntmps103
  go_wp2_with fail
  refine R.out.mono ?_
  rintro e w1 ⟨rfl, HC, HS⟩
  go_wp2
  go_end0
  exact ⟨rfl, HC, Lib.hid (HW.out.2.trans HS.out)⟩
set_option maxRecDepth 100000 in
set_option maxHeartbeats 1000000 in
theorem i_pop (h : MiAt B cb mb w ev sv ov s) : Calls Tryz.prog 105 #[.pointer (some ⟨cb, 0, none⟩)] w (MiR B cb mb ev sv ov (.int .i64 (popI s).1) (popI s).2 w) := by
  unfold popI
  obtain ⟨sp, hsp⟩ : ∃ x, s.1.sp = x := ⟨_, rfl⟩
  obtain ⟨q, hq⟩ : ∃ x, IntKind.i64.wrap (sp + 1) = x := ⟨_, rfl⟩
  obtain ⟨q1, hq1⟩ : ∃ x, IntKind.i64.wrap (q - 1) = x := ⟨_, rfl⟩
  rw [hsp, hq, hq1]
  have HW := Lib.hid (h.setSp q)
  have R := Lib.hid (i_load HW.out.1 q1)
  obtain ⟨e0, _⟩ := h.cells
  obtain ⟨_, m1, _, _, _, _, _, gm⟩ := h.mc.cells
  have hlt := h.mc.lt
  rw [hsp] at m1
  clear h hsp
  go_enter Tryz.func105, Tryz.ntmps105
  go_wp2_with fail
  refine R.out.mono ?_
  rintro e w1 ⟨rfl, HC, HS⟩
  go_wp2
  go_ret
  exact ⟨rfl, HC, Lib.hid (HW.out.2.trans HS.out)⟩
set_option maxRecDepth 100000 in
set_option maxHeartbeats 1000000 in
theorem i_popAll (h : MiAt B cb mb w ev sv ov s) (n : Nat) (hn : n ≤ 1000000) : Calls Tryz.prog 109 #[.pointer (some ⟨cb, 0, none⟩), .int .i64 (n : Int)] w (MiR B cb mb ev sv ov (.tuple #[]) (dropI n s) w) := by
  have HC := Lib.hid h
  clear h
  go_enter Tryz.func109, Tryz.ntmps109
  go_wp2_with fail
  go_loopw [5] (fun k wr => ∃ (j : Nat) (s' : McS), k = .int .i64 (j : Int) ∧ j ≤ n ∧ Hid (dropI (n - j) s' = dropI n s) ∧ Hid (MiAt B cb mb wr ev sv ov s') ∧ Hid (Step mb (MM cb sv ov) (MM cb sv ov) w wr)) (fun k _ => n - (RowKit.intOf k).toNat)
  case atStart => exact ⟨0, s, rfl, Nat.zero_le _, Lib.hid rfl, HC, Lib.hid (Step.refl _ _ _)⟩
  case round =>
    obtain ⟨j, s', rfl, hj, HD, HM, HS⟩ := hrel
    by_cases hlt : j < n
    · have P := Lib.hid (i_pop HM.out)
      have HD1 : Hid (dropI (n - (j + 1)) ((popI s').2) = dropI n s) := Lib.hid (by rw [← HD.out, show n - j = (n - (j + 1)) + 1 from by omega]; rfl)
      go_wp2_with fail
      refine P.out.mono ?_
      rintro e w1 ⟨rfl, HM1, HS1⟩
      go_wp2
      go_roundw
      case rel => exact ⟨j + 1, (popI s').2, by go_num, by omega, HD1, HM1, Lib.hid (HS.out.trans HS1.out)⟩
      case measure => simp [RowKit.intOf]; omega
    · have hjj : n - j = 0 := by omega
      have HF : Hid (s' = dropI n s) := Lib.hid (by rw [← HD.out, hjj]; rfl)
      clear hjj
      go_wp2
      go_end0
      exact ⟨rfl, Lib.hid (HF.out ▸ HM.out), HS⟩
set_option maxRecDepth 100000 in
set_option maxHeartbeats 1000000 in
theorem i_pushZeros (h : MiAt B cb mb w ev sv ov s) (n : Nat) (hn : n ≤ 1000000) : Calls Tryz.prog 108 #[.pointer (some ⟨cb, 0, none⟩), .int .i64 (n : Int)] w (MiR B cb mb ev sv ov (.tuple #[]) (zerosI' n s) w) := by
  have HC := Lib.hid h
  clear h
  go_enter Tryz.func108, Tryz.ntmps108
  go_wp2_with fail
  go_loopw [5] (fun k wr => ∃ (j : Nat) (s' : McS), k = .int .i64 (j : Int) ∧ j ≤ n ∧ Hid (zerosI' (n - j) s' = zerosI' n s) ∧ Hid (MiAt B cb mb wr ev sv ov s') ∧ Hid (Step mb (MM cb sv ov) (MM cb sv ov) w wr)) (fun k _ => n - (RowKit.intOf k).toNat)
  case atStart => exact ⟨0, s, rfl, Nat.zero_le _, Lib.hid rfl, HC, Lib.hid (Step.refl _ _ _)⟩
  case round =>
    obtain ⟨j, s', rfl, hj, HD, HM, HS⟩ := hrel
    by_cases hlt : j < n
    · have P := Lib.hid (i_push HM.out 0)
      have HD1 : Hid (zerosI' (n - (j + 1)) (pushI s' 0) = zerosI' n s) := Lib.hid (by rw [← HD.out, show n - j = (n - (j + 1)) + 1 from by omega]; rfl)
      go_wp2_with fail
      refine P.out.mono ?_
      rintro e w1 ⟨rfl, HM1, HS1⟩
      go_wp2
      go_roundw
      case rel => exact ⟨j + 1, pushI s' 0, by go_num, by omega, HD1, HM1, Lib.hid (HS.out.trans HS1.out)⟩
      case measure => simp [RowKit.intOf]; omega
    · have hjj : n - j = 0 := by omega
      have HF : Hid (s' = zerosI' n s) := Lib.hid (by rw [← HD.out, hjj]; rfl)
      clear hjj
      go_wp2
      go_end0
      exact ⟨rfl, Lib.hid (HF.out ▸ HM.out), HS⟩
end
end Go.Proofs.YtakgjlpgcepnkaaGreat

/-! The program's Wrap and Apply -/
namespace Go.Proofs.YtakgjlpgcepnkaaGreat
open Go.RowKit Go.Lib

theorem ret_i' {k : IntKind} {a b : Int} (h : a = b) : Ending.returned (.int k a) = .returned (.int k b) := by rw [h]

theorem i_wrap (x : Int) (w : World) : Calls Tryz.prog 112 #[.int .i64 x] w fun e w' => e = .returned (.int .i64 (W32 x)) ∧ w = w' := by
  have h0 := W32_lo x
  have h1 := W32_hi x
  have hr := Lib.hid (W32_wrap x)
  go_enter Tryz.func112, Tryz.ntmps112
  go_wp2
  go_ret
  exact ⟨ret_i' (by rw [hr.out]; unfold wrap64; omega), rfl⟩
theorem i_one (b : Bool) (w : World) : Calls Tryz.prog 113 #[.bool b] w fun e w' => e = .returned (.int .i64 (if b = true then 1 else 0)) ∧ w = w' := by
  cases b
  all_goals
    go_enter Tryz.func113, Tryz.ntmps113
    go_wp2
    go_ret
    exact ⟨rfl, rfl⟩

set_option maxHeartbeats 400000 in
theorem i_apply (k a b : Int) (w : World) : Calls Tryz.prog 106 #[.int .i64 k, .int .i64 a, .int .i64 b] w fun e w' => e = .returned (.int .i64 (appZ k a b)) ∧ w = w' := by
  have ha0 := W32_lo a
  have ha1 := W32_hi a
  have hb0 := W32_lo b
  have hb1 := W32_hi b
  have hm := Lib.hid (mul_bd a b)
  by_cases h2 : k = 2
  · subst h2
    have hr := Lib.hid (appZ_add a b)
    go_enter Tryz.func106, Tryz.ntmps106
    go_wp2_with (first | (go_at_call 112; refine (i_wrap _ _).mono ?_; rintro e w' ⟨rfl, rfl⟩))
    go_ret
    exact ⟨ret_i' hr.out.symm, rfl⟩
  by_cases h3 : k = 3
  · subst h3
    have hr := Lib.hid (appZ_sub a b)
    go_enter Tryz.func106, Tryz.ntmps106
    go_wp2_with (first | (go_at_call 112; refine (i_wrap _ _).mono ?_; rintro e w' ⟨rfl, rfl⟩))
    go_ret
    exact ⟨ret_i' hr.out.symm, rfl⟩
  by_cases h4 : k = 4
  · subst h4
    have hr := Lib.hid (appZ_mul a b)
    have hm0 := hm.out.1
    have hm1 := hm.out.2
    go_enter Tryz.func106, Tryz.ntmps106
    go_wp2_with (first | (go_at_call 112; refine (i_wrap _ _).mono ?_; rintro e w' ⟨rfl, rfl⟩))
    go_ret
    exact ⟨ret_i' hr.out.symm, rfl⟩
  by_cases h5 : k = 5
  · subst h5
    have hr : Hid (appZ 5 a b = if decide (W32 a < W32 b) = true then 1 else 0) := Lib.hid (by show (if W32 a < W32 b then _ else _) = _; simp)
    go_enter Tryz.func106, Tryz.ntmps106
    go_wp2_with (first | (go_at_call 112; refine (i_wrap _ _).mono ?_; rintro e w' ⟨rfl, rfl⟩) | (go_at_call 113; refine (i_one _ _).mono ?_; rintro e w' ⟨rfl, rfl⟩))
    all_goals go_ret
    all_goals exact ⟨ret_i' (by rw [hr.out]; simp [*]), rfl⟩
  by_cases h6 : k = 6
  · subst h6
    have hr : Hid (appZ 6 a b = if (W32 a == W32 b) = true then 1 else 0) := Lib.hid (by show (if W32 a = W32 b then _ else _) = _; simp)
    go_enter Tryz.func106, Tryz.ntmps106
    go_wp2_with (first | (go_at_call 112; refine (i_wrap _ _).mono ?_; rintro e w' ⟨rfl, rfl⟩) | (go_at_call 113; refine (i_one _ _).mono ?_; rintro e w' ⟨rfl, rfl⟩))
    all_goals go_ret
    all_goals exact ⟨ret_i' (by rw [hr.out]; simp [*]), rfl⟩
  · have hr := Lib.hid (appZ_other k a b h2 h3 h4 h5 h6)
    have e2 : (k == 2) = false := by simpa using h2
    have e3 : (k == 3) = false := by simpa using h3
    have e4 : (k == 4) = false := by simpa using h4
    have e5 : (k == 5) = false := by simpa using h5
    have e6 : (k == 6) = false := by simpa using h6
    clear h2 h3 h4 h5 h6
    go_enter Tryz.func106, Tryz.ntmps106
    go_wp2_with (first | (go_at_call 112; refine (i_wrap _ _).mono ?_; rintro e w' ⟨rfl, rfl⟩))
    go_ret
    exact ⟨ret_i' hr.out.symm, rfl⟩
end Go.Proofs.YtakgjlpgcepnkaaGreat
