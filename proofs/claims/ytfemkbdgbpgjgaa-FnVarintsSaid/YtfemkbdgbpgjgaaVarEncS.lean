/- EncodeVarint, Signless, Signed: the model's. -/
import Derived.Test.YtfemkbdgbpgjgaaRows
import Derived.Test.YtfemkbdgbpgjgaaVarBits
import Derived.Maps.AppendAt
import Derived.Outline
import Derived.Lib.Hide
namespace Go.Proofs.Ytfemkbdgbpgjgaa
open Go.RowKit Go.Lib

theorem infoV : (Try.prog.info? 5).map (fun i => (i.zero, i.size, i.bytes)) = some (some (.int .u8 0), 1, 1) := by kernel_rfl
theorem ret_bV {p q : Bool} (h : p = q) : Ending.returned (.bool p) = .returned (.bool q) := by rw [h]
theorem s_inV (x a b : Int) (w : World) : Calls Try.prog 57 #[.int .i64 x, .int .i64 a, .int .i64 b] w fun e w' => e = .returned (.bool (decide (a ≤ x) && decide (x ≤ b))) ∧ w = w' := by
  by_cases h1 : a ≤ x <;> by_cases h2 : x ≤ b
  all_goals
    go_enter Try.func57, Try.ntmps57
    go_wp2
    go_ret
    exact ⟨ret_bV (by simp [h1, h2]), rfl⟩
theorem s_inV1 (x a b : Int) (h1 : a ≤ x) (h2 : x ≤ b) (w : World) : Calls Try.prog 57 #[.int .i64 x, .int .i64 a, .int .i64 b] w fun e w' => e = .returned (.bool true) ∧ w = w' := by
  have := s_inV x a b w
  rw [decide_eq_true h1, decide_eq_true h2] at this
  exact this
theorem s_inV0 (x a b : Int) (h : x < a ∨ b < x) (w : World) : Calls Try.prog 57 #[.int .i64 x, .int .i64 a, .int .i64 b] w fun e w' => e = .returned (.bool false) ∧ w = w' := by
  have := s_inV x a b w
  have e : (decide (a ≤ x) && decide (x ≤ b)) = false := by
    rcases h with h | h
    · rw [decide_eq_false (by omega : ¬ a ≤ x)]; rfl
    · rw [decide_eq_false (by omega : ¬ x ≤ b)]; simp
  rw [e] at this
  exact this
theorem ret_iV {a b : Int} (h : a = b) : Ending.returned (.int .i64 a) = .returned (.int .i64 b) := by rw [h]
theorem s_sgl (a : Int) (w : World) : Calls Try.prog 32 #[.int .i64 a] w fun e w' => e = .returned (.int .i64 (sglZ a)) ∧ w = w' := by
  by_cases h : a < -549755813888 ∨ 549755813887 < a
  · have I := Lib.hid (fun W => s_inV0 a (-549755813888) 549755813887 h W)
    have HV : Hid (sglZ a = -1) := Lib.hid (by unfold sglZ; rw [if_pos h])
    clear h
    go_enter Try.func32, Try.ntmps32
    go_wp2_with fail
    refine (I.out _).mono ?_
    rintro e w1 ⟨rfl, rfl⟩
    go_wp2
    go_ret
    exact ⟨ret_iV HV.out.symm, rfl⟩
  · have h1 : -549755813888 ≤ a := by omega
    have h2 : a ≤ 549755813887 := by omega
    have I := Lib.hid (fun W => s_inV1 a (-549755813888) 549755813887 h1 h2 W)
    have HV : Hid (sglZ a = if 0 ≤ a then 2 * a else -2 * a - 1) := Lib.hid (by unfold sglZ; rw [if_neg h])
    clear h
    by_cases h0 : 0 ≤ a
    · have HV2 : Hid (2 * a = sglZ a) := Lib.hid (by rw [HV.out, if_pos h0])
      go_enter Try.func32, Try.ntmps32
      go_wp2_with fail
      refine (I.out _).mono ?_
      rintro e w1 ⟨rfl, rfl⟩
      go_wp2
      go_ret
      exact ⟨ret_iV HV2.out, rfl⟩
    · have HV2 : Hid (-2 * a - 1 = sglZ a) := Lib.hid (by rw [HV.out, if_neg h0])
      go_enter Try.func32, Try.ntmps32
      go_wp2_with fail
      refine (I.out _).mono ?_
      rintro e w1 ⟨rfl, rfl⟩
      go_wp2
      go_ret
      exact ⟨ret_iV (by have h := HV2.out; omega), rfl⟩
set_option maxRecDepth 100000 in
theorem s_sgd (a : Int) (w : World) : Calls Try.prog 33 #[.int .i64 a] w fun e w' => e = .returned (.int .i64 (sgdZ a)) ∧ w = w' := by
  by_cases h : a < 0 ∨ 1099511627775 < a
  · have I := Lib.hid (fun W => s_inV0 a 0 1099511627775 h W)
    have HV : Hid (sgdZ a = 0) := Lib.hid (by unfold sgdZ; rw [if_pos h])
    clear h
    go_enter Try.func33, Try.ntmps33
    go_wp2_with fail
    refine (I.out _).mono ?_
    rintro e w1 ⟨rfl, rfl⟩
    go_wp2
    go_ret
    exact ⟨ret_iV HV.out.symm, rfl⟩
  · have h1 : 0 ≤ a := by omega
    have h2 : a ≤ 1099511627775 := by omega
    have I := Lib.hid (fun W => s_inV1 a 0 1099511627775 h1 h2 W)
    have HV : Hid (sgdZ a = if a % 2 = 1 then -((a + 1) / 2) else a / 2) := Lib.hid (by unfold sgdZ; rw [if_neg h])
    have hb : bits .and .i64 a 1 = a % 2 := by
      have h127 : (BitVec.ofInt 64 1).toNat = 2 ^ 1 - 1 := by decide
      have key : (BitVec.ofInt 64 a &&& BitVec.ofInt 64 1).toNat = (a % ((2 ^ 64 : Nat) : Int)).toNat % 2 ^ 1 := by
        rw [BitVec.toNat_and, BitVec.toNat_ofInt, h127, Nat.and_two_pow_sub_one_eq_mod]
      show IntKind.i64.wrap ((BitVec.ofInt 64 a &&& BitVec.ofInt 64 1).toNat : Nat) = a % 2
      rw [key, IntKind.wrap_i64]
      omega
    clear h
    by_cases h0 : a % 2 = 1
    · have HV2 : Hid (-((a + 1) / 2) = sgdZ a) := Lib.hid (by rw [HV.out, if_pos h0])
      go_enter Try.func33, Try.ntmps33
      go_wp2_with fail
      refine (I.out _).mono ?_
      rintro e w1 ⟨rfl, rfl⟩
      go_wp2
      go_ret
      exact ⟨ret_iV (by have h := HV2.out; rw [Int.tdiv_eq_ediv_of_nonneg (by omega : (0 : Int) ≤ a + 1)]; unfold wrap64; omega), rfl⟩
    · have HV2 : Hid (a / 2 = sgdZ a) := Lib.hid (by rw [HV.out, if_neg h0])
      have hd : (a % 2 == 1) = false := by simpa using h0
      go_enter Try.func33, Try.ntmps33
      go_wp2_with fail
      refine (I.out _).mono ?_
      rintro e w1 ⟨rfl, rfl⟩
      go_wp2
      go_ret
      exact ⟨ret_iV (by have h := HV2.out; omega), rfl⟩

set_option maxRecDepth 100000 in
set_option maxHeartbeats 1000000 in
theorem s_encV (a : Int) (w : World) : Calls Try.prog 30 #[.int .i64 a] w fun e w' => e = .returned (.string ⟨(encV a).toArray⟩) ∧ Below w.heap.size w w' := by
  by_cases h : a < 0 ∨ 1099511627775 < a
  · have I := Lib.hid (fun W => s_inV0 a 0 1099511627775 h W)
    have HV := Lib.hid (encV_out a h)
    clear h
    go_enter Try.func30, Try.ntmps30
    go_wp2_with fail
    refine (I.out _).mono ?_
    rintro e w1 ⟨rfl, rfl⟩
    go_wp2
    go_ret
    rw [HV.out]
    exact ⟨rfl, Below.refl _ _⟩
  · obtain ⟨n, rfl⟩ : ∃ n : Nat, a = (n : Int) := ⟨a.toNat, by omega⟩
    have hn : n ≤ 1099511627775 := by omega
    have I := Lib.hid (fun W => s_inV1 (n : Int) 0 1099511627775 (by omega) (by omega) W)
    have HV := Lib.hid (encV_in n hn)
    have HL := Lib.hid (vl_len6 n hn)
    obtain ⟨i0, hi, hz0, hz1, hz2⟩ := info_parts infoV
    clear h
    go_enter Try.func30, Try.ntmps30
    go_wp2_with fail
    refine (I.out _).mono ?_
    rintro e w1 ⟨rfl, rfl⟩
    go_wp2
    go_loopw [0, 3] (fun x v wr => ∃ (m : Nat) (M : List UInt8), x = .int .i64 (m : Int) ∧ m ≤ 1099511627775 ∧ Hid (M ++ vl m = vl n) ∧ wr.ownsRow w.heap.size 5 1 v M.length (byteCells M) ∧ Below w.heap.size w wr)
      (fun x _ _ => (intOf x).toNat)
    case atStart => exact ⟨n, [], rfl, hn, Lib.hid rfl, World.ownsRow_made _ _ _ (Nat.le_refl _) (by decide) (by simp), (Below.refl _ _).alloc (Nat.le_refl _) _⟩
    case round =>
      obtain ⟨m, M, rfl, hm, HM, hown, hbel⟩ := hrel
      have hB := hbel.size
      have hML : M.length ≤ 6 := by have := congrArg List.length HM.out; rw [List.length_append] at this; have := HL.out; omega
      have h63 : M.length + 1 ≤ maxLen := by unfold maxLen; omega
      have hby : (M.length + 1) * 1 ≤ 140737488355328 := by omega
      have hq1 := i64_and127 (m : Int)
      have hq2 := i64_or128 ((m : Int) % 128) (by omega) (by omega)
      by_cases hlt : m < 128
      · have e3 : (m : Int) = ((UInt8.ofNat m).toNat : Int) := by rw [byte7 m (by omega)]
        have E3 := Lib.hid e3
        have k0 : ¬ (127 : Int) < (m : Int) := by omega
        have HE : Hid (M ++ [UInt8.ofNat m] = vl n) := Lib.hid (by rw [← HM.out, vl_small m hlt])
        clear hq1 hq2 e3
        go_wp2_with (at_builtin; refine wpList_append_own _ rfl _ _ 22 rfl w.heap.size 5 i0 (.int .u8 0) 1 1 Try.underlying22 hi hz0 hz1 hz2 rfl (by decide) _ _ _ rfl (hown.alloc _) ⟨wr.heap.size, 0, none⟩ 1 1 [.int .u8 (m : Int)] rfl rfl (cell_one_new _ _ _) (fun u hu => by simp at hu; subst hu; rfl) h63 hby (by simp; omega) ?_)
        intro v' w2 hown1 hgrow _
        have R := owns_cast (l := vl n) hown1 (by rw [← HE.out, byteCells_append]; show byteCells M ++ [Value.int .u8 ((UInt8.ofNat m).toNat : Int)] = _; rw [← E3.out])
        have RB := Lib.hid (below_app' hown hbel hB hgrow)
        have hcv := conv_own (P := Try.prog) w2 w.heap.size 22 9 5 _ (vl n) Try.underlying22 Try.underlying5 Try.underlying9 R
        clear hown1 hgrow hown hbel R
        go_wp2
        go_ret
        rw [HV.out]
        exact ⟨rfl, RB.out⟩
      · have e3 : (m : Int) % 128 + 128 = ((UInt8.ofNat (m % 128 + 128)).toNat : Int) := by rw [byte7 _ (by omega)]; omega
        have E3 := Lib.hid e3
        have k0 : (127 : Int) < (m : Int) := by omega
        have HE : Hid ((M ++ [UInt8.ofNat (m % 128 + 128)]) ++ vl (m / 128) = vl n) := Lib.hid (by rw [← HM.out, vl_big m hlt, List.append_assoc]; rfl)
        clear e3
        go_wp2_with ((at_builtin; refine wpList_append_own _ rfl _ _ 22 rfl w.heap.size 5 i0 (.int .u8 0) 1 1 Try.underlying22 hi hz0 hz1 hz2 rfl (by decide) _ _ _ rfl (hown.alloc _) ⟨wr.heap.size, 0, none⟩ 1 1 [.int .u8 ((m : Int) % 128 + 128)] rfl rfl (cell_one_new _ _ _) (fun u hu => by simp at hu; subst hu; rfl) h63 hby (by simp; omega) ?_))
        intro v' w2 hown1 hgrow _
        have R := owns_cast (l := M ++ [UInt8.ofNat (m % 128 + 128)]) hown1 (by rw [byteCells_append]; show byteCells M ++ [Value.int .u8 ((UInt8.ofNat (m % 128 + 128)).toNat : Int)] = _; rw [← E3.out])
        have RB := below_app' hown hbel hB hgrow
        clear hown1 hgrow hown hbel hq1 hq2
        go_wp2
        go_roundw
        case rel => exact ⟨m / 128, _, by go_num, by omega, HE, R, RB⟩
        case measure => simp [intOf]; omega
end Go.Proofs.Ytfemkbdgbpgjgaa
