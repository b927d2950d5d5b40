/- NameOk, the model's and the program's (as in NtSpec, NtImpl, for a seat without tokens). -/
import Derived.Test.YtljmkkodhnkemaaRows
import Derived.Test.YtljmkkodhnkemaaPlainA
import Derived.Outline
import Derived.Lib.Hide
namespace Go.Proofs.Ytljmkkodhnkemaa
open Go.RowKit Go.Lib

theorem s_in7n (x lo hi : Int) (w : World) : Calls Try.prog 19 #[.int .i64 x, .int .i64 lo, .int .i64 hi] w fun e w' => e = .returned (.bool (decide (lo ≤ x) && decide (x ≤ hi))) ∧ w = w' := by
  by_cases h1 : lo ≤ x <;> by_cases h2 : x ≤ hi
  all_goals
    go_enter Try.func19, Try.ntmps19
    go_wp2
    go_ret
    exact ⟨ret_b (by simp [h1, h2]), rfl⟩

theorem s_name7n (s : ByteArray) (w : World) (hm : s.size ≤ maxLen) : Calls Try.prog 45 #[.string s] w fun e w' => e = .returned (.bool (nameB s)) ∧ w = w' := by
  unfold maxLen at hm
  go_enter Try.func45, Try.ntmps45
  go_wp2_with fail
  go_loop [3] (fun i => ∃ k : Nat, k ≤ s.size ∧ i = .int .i64 (k : Int) ∧ (s.data.toList.take k).all lowB = true) (fun i => s.size - (intOf i).toNat)
  case atStart => exact ⟨0, Nat.zero_le _, rfl, rfl⟩
  case round =>
    obtain ⟨k, hk, rfl, ha⟩ := hrel
    have HA := Lib.hid ha
    clear ha
    by_cases hlt : k < s.size
    · have hp : s[k].toNat < 256 := s[k].toNat_lt
      by_cases hbad : s[k].toNat < 97 ∨ 122 < s[k].toNat
      · have hr := Lib.hid (nameB_bad s k hlt hbad)
        go_wp2_with fail
        all_goals go_ret
        all_goals exact ⟨ret_b hr.out.symm, rfl⟩
      · have h1 : 97 ≤ s[k].toNat := by omega
        have h2 : s[k].toNat ≤ 122 := by omega
        have HN := Lib.hid (low_next s k hlt HA.out h1 h2)
        clear hbad
        go_wp2
        go_round
        case rel => exact ⟨k + 1, by omega, by go_num, HN.out⟩
        case measure => simp [intOf]; omega
    · have hkk : k = s.size := by omega
      have hr := Lib.hid (nameB_all s (by have := HA.out; rw [hkk] at this; exact this))
      clear hkk
      go_wp2_with (first | (go_at_call 19; refine (s_in7n _ _ _ _).mono ?_; rintro e w' ⟨rfl, rfl⟩))
      go_ret
      exact ⟨ret_b (by rw [hr.out]; congr 1 <;> (rw [decide_eq_decide]; omega)), rfl⟩
theorem i_name7n (s : ByteArray) (w : World) (hm : s.size ≤ maxLen) : Calls Try.prog 48 #[.string s] w fun e w' => e = .returned (.bool (nameB s)) ∧ w = w' := by
  unfold maxLen at hm
  by_cases hs0 : s.size < 1
  · have hr := Lib.hid (nameB_short s (by omega))
    go_enter Try.func48, Try.ntmps48
    go_wp2
    go_ret
    exact ⟨ret_b hr.out.symm, rfl⟩
  by_cases hs1 : 8 < s.size
  · have hr := Lib.hid (nameB_long s hs1)
    go_enter Try.func48, Try.ntmps48
    go_wp2
    go_ret
    exact ⟨ret_b hr.out.symm, rfl⟩
  go_enter Try.func48, Try.ntmps48
  go_wp2_with fail
  go_loop [14] (fun i => ∃ k : Nat, k ≤ s.size ∧ i = .int .i64 (k : Int) ∧ (s.data.toList.take k).all lowB = true) (fun i => s.size - (intOf i).toNat)
  case atStart => exact ⟨0, Nat.zero_le _, rfl, rfl⟩
  case round =>
    obtain ⟨k, hk, rfl, ha⟩ := hrel
    have HA := Lib.hid ha
    clear ha
    by_cases hlt : k < s.size
    · have hp : s[k].toNat < 256 := s[k].toNat_lt
      by_cases hbad : s[k].toNat < 97 ∨ 122 < s[k].toNat
      · have hr := Lib.hid (nameB_bad s k hlt hbad)
        go_wp2_with fail
        all_goals go_ret
        all_goals exact ⟨ret_b hr.out.symm, rfl⟩
      · have h1 : 97 ≤ s[k].toNat := by omega
        have h2 : s[k].toNat ≤ 122 := by omega
        have HN := Lib.hid (low_next s k hlt HA.out h1 h2)
        clear hbad
        go_wp2
        go_round
        case rel => exact ⟨k + 1, by omega, by go_num, HN.out⟩
        case measure => simp [intOf]; omega
    · have hkk : k = s.size := by omega
      have hr := Lib.hid (nameB_good s (by omega) (by omega) (by have := HA.out; rw [hkk] at this; exact this))
      clear hkk
      go_wp2
      go_ret
      exact ⟨ret_b hr.out.symm, rfl⟩
end Go.Proofs.Ytljmkkodhnkemaa
