/- The model's figure of a number below 16; The model's FormatInt: the decimal numeral, for every int. -/
import Derived.Test.YthmllcpldgbbcaaGreatDoorRows
import Derived.Test.YthmllcpldgbbcaaGreatDoorPlainA
import Derived.Lib.Hide
import Derived.Maps.AppendAt
import Derived.Outline
/-! The model's figure of a number below 16 -/
namespace Go.Proofs.YthmllcpldgbbcaaGreatDoor
open Go.RowKit Go.Lib

theorem s_fig (x : Int) (y : Nat) (w : World) (hx : x = y) (h1 : y < 16) : Calls Tryz.prog 112 #[.int .i64 x] w fun e w' => e = .returned (.int .u8 (figB y).toNat) ∧ w' = w := by
  have hb := figB_toNat y h1
  subst hx
  have HX := Lib.hid hb; clear hb
  by_cases h : y < 10
  · go_enter Tryz.func112, Tryz.ntmps112
    go_wp2
    go_ret
    exact ⟨ret_int (by rw [HX.out]; unfold figN; rw [if_pos (by omega)]; omega), rfl⟩
  · go_enter Tryz.func112, Tryz.ntmps112
    go_wp2
    go_ret
    exact ⟨ret_int (by rw [HX.out]; unfold figN; rw [if_neg (by omega)]; omega), rfl⟩
end Go.Proofs.YthmllcpldgbbcaaGreatDoor

/-! The model's FormatInt: the decimal numeral, for every int -/
namespace Go.Proofs.YthmllcpldgbbcaaGreatDoor
open Go.RowKit Go.Lib

theorem s_itoa_zero (w : World) : Calls Tryz.prog 106 #[.int .i64 0] w fun e w' => e = .returned (.string ⟨(itoa 0).toArray⟩) ∧ Below w.heap.size w w' := by
  go_enter Tryz.func106, Tryz.ntmps106
  go_wp2
  go_ret
  exact ⟨ret_str (by decide +kernel), Below.refl _ _⟩

set_option maxRecDepth 100000 in
set_option maxHeartbeats 400000 in
theorem s_itoa_pos (n : Nat) (w : World) (h0 : 0 < n) (h1 : n ≤ 9223372036854775807) : Calls Tryz.prog 106 #[.int .i64 (n : Int)] w fun e w' => e = .returned (.string ⟨(itoa (n : Int)).toArray⟩) ∧ Below w.heap.size w w' := by
  have hz : ((n : Int) == 0) = false := by simp; omega
  have hn : decide ((n : Int) < 0) = false := by simp
  have hfin : itoa (n : Int) = restD n := by rw [restD_pos _ h0]; unfold itoa; rw [if_neg (by omega)]; simp
  have HF := Lib.hid hfin; clear hfin
  go_enter Tryz.func106, Tryz.ntmps106
  go_wp2
  clear hz hn
  go_loopw [0, 4, 5] (fun x s _ wr => ∃ (m : Nat) (t : ByteArray), x = .int .i64 (m : Int) ∧ s = .string t ∧ m ≤ 9223372036854775807 ∧ restD m ++ t.data.toList = restD n ∧ Below w.heap.size w wr)
    (fun x _ _ _ => (intOf x).toNat)
  case atStart => exact ⟨n, ⟨#[]⟩, rfl, rfl, h1, by simp, Below.refl _ _⟩
  case round =>
    obtain ⟨m, t, rfl, rfl, hm, hr, hbel⟩ := hrel
    have HR := Lib.hid hr; clear hr
    by_cases hm0 : 0 < m
    · have hne : ((m : Int) != 0) = true := by simp; omega
      have hx : (m : Int) % 10 = ((m % 10 : Nat) : Int) := rfl
      have HX := Lib.hid hx; clear hx
      have hd : m % 10 < 16 := by omega
      have hB := hbel.size
      have hcv := run_convert_bytes_back (P := Tryz.prog) (wr.alloc (.cells #[.int .u8 (figB (m % 10)).toNat] 5)) 22 9 5 ⟨wr.heap.size, 0, none⟩ 1 [figB (m % 10)] Tryz.underlying22 Tryz.underlying5 Tryz.underlying9
        (fun j hj => by
          have hj0 : j = 0 := by simp at hj; omega
          subst hj0
          exact cell_one_new wr (.int .u8 (figB (m % 10)).toNat) 5 0 _ rfl)
      simp only [List.length_cons, List.length_nil, Nat.zero_add] at hcv
      have hts := rest_size HR.out (by omega)
      have HN := Lib.hid (rest_next HR.out hm0)
      go_wp2_with (go_at_call 112; ((with_reducible refine (s_fig _ _ _ HX.out hd).mono ?_); rintro e w' ⟨rfl, rfl⟩))
      go_roundw
      case rel => exact ⟨m / 10, _, by go_num, rfl, by omega, HN.out, hbel.alloc hB _⟩
      case measure => simp [intOf]; omega
    · have hm00 : m = 0 := by omega
      subst hm00
      go_wp2
      go_ret
      exact ⟨ret_str (by rw [HF.out, ← HR.out]; simp [restD]), hbel⟩

set_option maxRecDepth 100000 in
set_option maxHeartbeats 400000 in
theorem s_itoa_neg (n : Nat) (w : World) (h0 : 0 < n) (h1 : n ≤ 9223372036854775808) : Calls Tryz.prog 106 #[.int .i64 (-(n : Int))] w fun e w' => e = .returned (.string ⟨(itoa (-(n : Int))).toArray⟩) ∧ Below w.heap.size w w' := by
  have hz : (-(n : Int) == 0) = false := by simp; omega
  have hn : decide (-(n : Int) < 0) = true := by simp; omega
  have hfin : itoa (-(n : Int)) = 45 :: restD n := by rw [restD_pos _ h0]; unfold itoa; rw [if_pos (by omega)]; simp
  have HF := Lib.hid hfin; clear hfin
  go_enter Tryz.func106, Tryz.ntmps106
  go_wp2
  clear hz hn
  go_loopw [0, 4, 5] (fun x s _ wr => ∃ (m : Nat) (t : ByteArray), x = .int .i64 (-(m : Int)) ∧ s = .string t ∧ m ≤ 9223372036854775808 ∧ restD m ++ t.data.toList = restD n ∧ Below w.heap.size w wr)
    (fun x _ _ _ => (-(intOf x)).toNat)
  case atStart => exact ⟨n, ⟨#[]⟩, rfl, rfl, h1, by simp, Below.refl _ _⟩
  case round =>
    obtain ⟨m, t, rfl, rfl, hm, hr, hbel⟩ := hrel
    have HR := Lib.hid hr; clear hr
    by_cases hm0 : 0 < m
    · have hne : (-(m : Int) != 0) = true := by simp; omega
      have hx : -(-((m % 10 : Nat) : Int)) = ((m % 10 : Nat) : Int) := by omega
      have HX := Lib.hid hx; clear hx
      have hd : m % 10 < 16 := by omega
      have hB := hbel.size
      have hcv := run_convert_bytes_back (P := Tryz.prog) (wr.alloc (.cells #[.int .u8 (figB (m % 10)).toNat] 5)) 22 9 5 ⟨wr.heap.size, 0, none⟩ 1 [figB (m % 10)] Tryz.underlying22 Tryz.underlying5 Tryz.underlying9
        (fun j hj => by
          have hj0 : j = 0 := by simp at hj; omega
          subst hj0
          exact cell_one_new wr (.int .u8 (figB (m % 10)).toNat) 5 0 _ rfl)
      simp only [List.length_cons, List.length_nil, Nat.zero_add] at hcv
      have hts := rest_size HR.out (by omega)
      have HN := Lib.hid (rest_next HR.out hm0)
      have q1 := neg_tmod m
      have q2 := neg_tdiv m
      go_wp2_with fail
      all_goals
        have Q2 := Lib.hid q2
        clear q1 q2
        refine (s_fig _ (m % 10) _ (by omega) hd).mono ?_
        rintro e w' ⟨rfl, rfl⟩
        have q2 := Q2.out
        go_wp2
        go_roundw
        case rel =>
          clear q2
          exact ⟨m / 10, _, by go_num, rfl, by omega, HN.out, hbel.alloc hB _⟩
        case measure =>
          clear q2
          simp [intOf]; omega
    · have hm00 : m = 0 := by omega
      subst hm00
      have hne : (-((0 : Nat) : Int) != 0) = false := rfl
      have hts := rest_size HR.out (by omega)
      go_wp2
      go_ret
      exact ⟨ret_str (by rw [HF.out, ← HR.out]; simp [restD]), hbel⟩

/-- FormatInt of the model, for every int. -/
theorem s_itoa (n : Int) (w : World) (h0 : -9223372036854775808 ≤ n) (h1 : n ≤ 9223372036854775807) : Calls Tryz.prog 106 #[.int .i64 n] w fun e w' => e = .returned (.string ⟨(itoa n).toArray⟩) ∧ Below w.heap.size w w' := by
  by_cases hz : n = 0
  · subst hz; exact s_itoa_zero w
  · by_cases hp : 0 < n
    · obtain ⟨m, rfl⟩ := Int.eq_ofNat_of_zero_le (by omega : 0 ≤ n)
      exact s_itoa_pos m w (by omega) (by omega)
    · obtain ⟨m, hm⟩ := Int.eq_ofNat_of_zero_le (by omega : 0 ≤ -n)
      obtain rfl : n = -(m : Int) := by omega
      exact s_itoa_neg m w (by omega) (by omega)
end Go.Proofs.YthmllcpldgbbcaaGreatDoor
