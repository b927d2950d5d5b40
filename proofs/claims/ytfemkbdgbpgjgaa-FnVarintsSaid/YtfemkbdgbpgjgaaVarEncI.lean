/- EncodeVarint, Signless, Signed: the program's. -/
import Derived.Test.YtfemkbdgbpgjgaaRows
import Derived.Test.YtfemkbdgbpgjgaaVarBits
import Derived.Maps.AppendAt
import Derived.Outline
import Derived.Lib.Hide
namespace Go.Proofs.Ytfemkbdgbpgjgaa
open Go.RowKit Go.Lib

theorem infoW : (Try.prog.info? 5).map (fun i => (i.zero, i.size, i.bytes)) = some (some (.int .u8 0), 1, 1) := by kernel_rfl
theorem ret_iW {a b : Int} (h : a = b) : Ending.returned (.int .i64 a) = .returned (.int .i64 b) := by rw [h]
theorem i_sgl (a : Int) (w : World) : Calls Try.prog 25 #[.int .i64 a] w fun e w' => e = .returned (.int .i64 (sglZ a)) ∧ w = w' := by
  by_cases h : a < -549755813888 ∨ 549755813887 < a
  · have HV : Hid (sglZ a = -1) := Lib.hid (by unfold sglZ; rw [if_pos h])
    by_cases h1 : a < -549755813888
    · clear h
      go_enter Try.func25, Try.ntmps25
      go_wp2
      go_ret
      exact ⟨ret_iW HV.out.symm, rfl⟩
    · have h2 : 549755813887 < a := by omega
      clear h
      go_enter Try.func25, Try.ntmps25
      go_wp2
      go_ret
      exact ⟨ret_iW HV.out.symm, rfl⟩
  · have h1 : -549755813888 ≤ a := by omega
    have h2 : a ≤ 549755813887 := by omega
    have HV : Hid (sglZ a = if 0 ≤ a then 2 * a else -2 * a - 1) := Lib.hid (by unfold sglZ; rw [if_neg h])
    clear h
    by_cases h0 : a < 0
    · have HV2 : Hid (-2 * a - 1 = sglZ a) := Lib.hid (by rw [HV.out, if_neg (by omega)])
      go_enter Try.func25, Try.ntmps25
      go_wp2
      go_ret
      exact ⟨ret_iW (by have h := HV2.out; omega), rfl⟩
    · have HV2 : Hid (2 * a = sglZ a) := Lib.hid (by rw [HV.out, if_pos (by omega)])
      go_enter Try.func25, Try.ntmps25
      go_wp2
      go_ret
      exact ⟨ret_iW (by have h := HV2.out; omega), rfl⟩
set_option maxRecDepth 100000 in
theorem i_sgd (a : Int) (w : World) : Calls Try.prog 24 #[.int .i64 a] w fun e w' => e = .returned (.int .i64 (sgdZ a)) ∧ w = w' := by
  by_cases h : a < 0 ∨ 1099511627775 < a
  · have HV : Hid (sgdZ a = 0) := Lib.hid (by unfold sgdZ; rw [if_pos h])
    by_cases h1 : a < 0
    · clear h
      go_enter Try.func24, Try.ntmps24
      go_wp2
      go_ret
      exact ⟨ret_iW HV.out.symm, rfl⟩
    · have h2 : 1099511627775 < a := by omega
      clear h
      go_enter Try.func24, Try.ntmps24
      go_wp2
      go_ret
      exact ⟨ret_iW HV.out.symm, rfl⟩
  · have h1 : 0 ≤ a := by omega
    have h2 : a ≤ 1099511627775 := by omega
    have HV : Hid (sgdZ a = if a % 2 = 1 then -((a + 1) / 2) else a / 2) := Lib.hid (by unfold sgdZ; rw [if_neg h])
    clear h
    by_cases h0 : a % 2 = 1
    · have HV2 : Hid (-((a + 1) / 2) = sgdZ a) := Lib.hid (by rw [HV.out, if_pos h0])
      have h3 : (0 : Int) < a % 2 := by omega
      have HT : Hid ((a + 1).tdiv 2 = (a + 1) / 2) := Lib.hid (Int.tdiv_eq_ediv_of_nonneg (by omega))
      clear h0
      go_enter Try.func24, Try.ntmps24
      go_wp2
      go_ret
      exact ⟨ret_iW (by have h := HV2.out; rw [HT.out]; unfold wrap64; omega), rfl⟩
    · have HV2 : Hid (a / 2 = sgdZ a) := Lib.hid (by rw [HV.out, if_neg h0])
      have h3 : ¬ (0 : Int) < a % 2 := by omega
      clear h0
      go_enter Try.func24, Try.ntmps24
      go_wp2
      go_ret
      exact ⟨ret_iW (by have h := HV2.out; omega), rfl⟩

/-- A row of bytes was made longer, in a row from block B on. -/
def AppB (T B : Nat) (l : List UInt8) (w : World) (e : Ending) (w' : World) : Prop := ∃ v, e = .returned v ∧ w'.ownsRow B T 1 v l.length (byteCells l) ∧ Below B w w'
set_option maxRecDepth 100000 in
set_option maxHeartbeats 1000000 in
theorem i_appV (v : Value) (L : List UInt8) (n B : Nat) (w : World) (hown : w.ownsRow B 5 1 v L.length (byteCells L)) (hl : L.length ≤ 1000000000) (hn : n ≤ 1099511627775) (hB : B ≤ w.heap.size) :
    Calls Try.prog 49 #[v, .int .i64 (n : Int)] w (AppB 5 B (L ++ vl n) w) := by
  have HL := Lib.hid (vl_len6 n hn)
  obtain ⟨i0, hi, hz0, hz1, hz2⟩ := info_parts infoW
  have HO := Lib.hid hown
  have HB0 : Hid (Below B w w) := Lib.hid (Below.refl _ _)
  clear hown
  go_enter Try.func49, Try.ntmps49
  go_wp2
  go_loopw [0, 1] (fun v x wr => ∃ (m : Nat) (M : List UInt8), x = .int .i64 (m : Int) ∧ m ≤ 1099511627775 ∧ Hid (M ++ vl m = L ++ vl n) ∧ wr.ownsRow B 5 1 v M.length (byteCells M) ∧ Below B w wr)
    (fun _ x _ => (intOf x).toNat)
  case atStart => exact ⟨n, L, rfl, hn, Lib.hid rfl, HO.out, HB0.out⟩
  case round =>
    obtain ⟨m, M, rfl, hm, HM, hown, hbel⟩ := hrel
    have hBr : B ≤ wr.heap.size := Nat.le_trans hB hbel.size
    have hML : M.length ≤ 1000000006 := by have := congrArg List.length HM.out; rw [List.length_append, List.length_append] at this; have := HL.out; omega
    have h63 : M.length + 1 ≤ maxLen := by unfold maxLen; omega
    have hby : (M.length + 1) * 1 ≤ 140737488355328 := by omega
    by_cases hlt : m < 128
    · have e3 : (m : Int) = ((UInt8.ofNat m).toNat : Int) := by rw [byte7 m (by omega)]
      have E3 := Lib.hid e3
      have k0 : ¬ (128 : Int) ≤ (m : Int) := by omega
      have HE : Hid (M ++ [UInt8.ofNat m] = L ++ vl n) := Lib.hid (by rw [← HM.out, vl_small m hlt])
      clear e3
      go_wp2_with (at_builtin; refine wpList_append_own _ rfl _ _ 22 rfl B 5 i0 (.int .u8 0) 1 1 Try.underlying22 hi hz0 hz1 hz2 rfl (by decide) _ _ _ rfl (hown.alloc _) ⟨wr.heap.size, 0, none⟩ 1 1 [.int .u8 (m : Int)] rfl rfl (cell_one_new _ _ _) (fun u hu => by simp at hu; subst hu; rfl) h63 hby (by simp; omega) ?_)
      intro v' w2 hown1 hgrow _
      have R := Lib.hid (owns_cast (l := L ++ vl n) hown1 (by rw [← HE.out, byteCells_append]; show byteCells M ++ [Value.int .u8 ((UInt8.ofNat m).toNat : Int)] = _; rw [← E3.out]))
      have RB := Lib.hid (below_app' hown hbel hBr hgrow)
      clear hown1 hgrow hown hbel
      go_wp2
      go_ret
      exact ⟨v', rfl, R.out, RB.out⟩
    · have e3 : (m : Int) % 128 + 128 = ((UInt8.ofNat (m % 128 + 128)).toNat : Int) := by rw [byte7 _ (by omega)]; omega
      have E3 := Lib.hid e3
      have k0 : (128 : Int) ≤ (m : Int) := by omega
      have hq : bits .or .u8 ((m : Int) % 256) 128 = (m : Int) % 128 + 128 := by rw [u8_or128 _ (by omega) (by omega)]; omega
      have HE : Hid ((M ++ [UInt8.ofNat (m % 128 + 128)]) ++ vl (m / 128) = L ++ vl n) := Lib.hid (by rw [← HM.out, vl_big m hlt, List.append_assoc]; rfl)
      clear e3
      go_wp2_with (at_builtin; refine wpList_append_own _ rfl _ _ 22 rfl B 5 i0 (.int .u8 0) 1 1 Try.underlying22 hi hz0 hz1 hz2 rfl (by decide) _ _ _ rfl (hown.alloc _) ⟨wr.heap.size, 0, none⟩ 1 1 [.int .u8 ((m : Int) % 128 + 128)] rfl rfl (cell_one_new _ _ _) (fun u hu => by simp at hu; subst hu; rfl) h63 hby (by simp; omega) ?_)
      intro v' w2 hown1 hgrow _
      have R := owns_cast (l := M ++ [UInt8.ofNat (m % 128 + 128)]) hown1 (by rw [byteCells_append]; show byteCells M ++ [Value.int .u8 ((UInt8.ofNat (m % 128 + 128)).toNat : Int)] = _; rw [← E3.out])
      have RB := below_app' hown hbel hBr hgrow
      clear hown1 hgrow hown hbel hq
      go_wp2
      go_roundw
      case rel => exact ⟨m / 128, _, by go_num, by omega, HE, R, RB⟩
      case measure => simp [intOf]; omega
set_option maxRecDepth 100000 in
theorem i_encV (a : Int) (w : World) : Calls Try.prog 17 #[.int .i64 a] w fun e w' => e = .returned (.string ⟨(encV a).toArray⟩) ∧ Below w.heap.size w w' := by
  by_cases h : a < 0 ∨ 1099511627775 < a
  · have HV := Lib.hid (encV_out a h)
    by_cases h1 : a < 0
    · clear h
      go_enter Try.func17, Try.ntmps17
      go_wp2
      go_ret
      rw [HV.out]
      exact ⟨rfl, Below.refl _ _⟩
    · have h2 : 1099511627775 < a := by omega
      clear h
      go_enter Try.func17, Try.ntmps17
      go_wp2
      go_ret
      rw [HV.out]
      exact ⟨rfl, Below.refl _ _⟩
  · obtain ⟨n, rfl⟩ : ∃ n : Nat, a = (n : Int) := ⟨a.toNat, by omega⟩
    have hn : n ≤ 1099511627775 := by omega
    have hn2 : (n : Int) ≤ 1099511627775 := by omega
    have HV := Lib.hid (encV_in n hn)
    clear h
    go_enter Try.func17, Try.ntmps17
    go_wp2_with fail
    refine (i_appV _ [] n w.heap.size _ (World.ownsRow_nil _ _ _ _) (by simp) hn (Nat.le_refl _)).mono ?_
    rintro e w1 ⟨v, rfl, hown, hb⟩
    rw [List.nil_append] at hown
    have hcv := conv_own (P := Try.prog) w1 w.heap.size 22 9 5 v (vl n) Try.underlying22 Try.underlying5 Try.underlying9 hown
    have HB := Lib.hid hb
    clear hown hb
    go_wp2
    go_ret
    rw [HV.out]
    exact ⟨rfl, HB.out⟩
end Go.Proofs.Ytfemkbdgbpgjgaa
