/- Plain facts: The model's NameOk; The model's TokOk and Arity; The program's NameOk; The program's TokOk and Arity. Nothing of the program. -/
import Derived.Test.YtcnnfhcpkbjolaaDoorRows
import Derived.Test.YtcnnfhcpkbjolaaDoorPlainA
import Derived.Outline
import Derived.Lib.Hide
/-! The model's NameOk; The model's TokOk and Arity -/
/-! The model's NameOk -/
namespace Go.Proofs.YtcnnfhcpkbjolaaDoor
open Go.RowKit Go.Lib

theorem s_in (x lo hi : Int) (w : World) : Calls Tryd.prog 32 #[.int .i64 x, .int .i64 lo, .int .i64 hi] w fun e w' => e = .returned (.bool (decide (lo ≤ x) && decide (x ≤ hi))) ∧ w = w' := by
  by_cases h1 : lo ≤ x <;> by_cases h2 : x ≤ hi
  all_goals
    go_enter Tryd.func32, Tryd.ntmps32
    go_wp2
    go_ret
    exact ⟨ret_b (by simp [h1, h2]), rfl⟩

theorem s_name (s : ByteArray) (w : World) (hm : s.size ≤ maxLen) : Calls Tryd.prog 50 #[.string s] w fun e w' => e = .returned (.bool (nameB s)) ∧ w = w' := by
  unfold maxLen at hm
  go_enter Tryd.func50, Tryd.ntmps50
  go_wp2_with fail
  go_loop [3] (fun i => ∃ k : Nat, k ≤ s.size ∧ i = .int .i64 (k : Int) ∧ (s.data.toList.take k).all lowB = true) (fun i => s.size - (intOf i).toNat)
  case atStart => exact ⟨0, Nat.zero_le _, rfl, rfl⟩
  case round =>
    obtain ⟨k, hk, rfl, ha⟩ := hrel
    have HA := Lib.hid ha
    clear ha
    by_cases hlt : k < s.size
    · have hp : s[k].toNat < 256 := s[k].toNat_lt
      by_cases hbad : s[k].toNat < 97 ∨ 122 < s[k].toNat
      · have hr := Lib.hid (nameB_bad s k hlt hbad)
        go_wp2_with fail
        all_goals go_ret
        all_goals exact ⟨ret_b hr.out.symm, rfl⟩
      · have h1 : 97 ≤ s[k].toNat := by omega
        have h2 : s[k].toNat ≤ 122 := by omega
        have HN := Lib.hid (low_next s k hlt HA.out h1 h2)
        clear hbad
        go_wp2
        go_round
        case rel => exact ⟨k + 1, by omega, by go_num, HN.out⟩
        case measure => simp [intOf]; omega
    · have hkk : k = s.size := by omega
      have hr := Lib.hid (nameB_all s (by have := HA.out; rw [hkk] at this; exact this))
      clear hkk
      go_wp2_with (first | (go_at_call 32; refine (s_in _ _ _ _).mono ?_; rintro e w' ⟨rfl, rfl⟩))
      go_ret
      exact ⟨ret_b (by rw [hr.out]; congr 1 <;> (rw [decide_eq_decide]; omega)), rfl⟩
end Go.Proofs.YtcnnfhcpkbjolaaDoor

/-! The model's TokOk and Arity -/
namespace Go.Proofs.YtcnnfhcpkbjolaaDoor
open Go.RowKit Go.Lib

set_option maxHeartbeats 1000000 in
theorem s_tok (k n : Int) (s : ByteArray) (w : World) (hm : s.size ≤ maxLen) :
    Calls Tryd.prog 107 #[.agg #[.int .i64 k, .int .i64 n, .string s]] w fun e w' => e = .returned (.bool (tokB ⟨k, n, s⟩)) ∧ Below w.heap.size w w' := by
  by_cases hk : k < 0 ∨ 7 < k
  · have hr := Lib.hid (tokB_out k n s hk)
    have hd : (decide (0 ≤ k) && decide (k ≤ 7)) = false := by simp; omega
    go_enter Tryd.func107, Tryd.ntmps107
    go_wp2_with (first | (go_at_call 32; refine (s_in _ _ _ _).mono ?_; rintro e w' ⟨rfl, rfl⟩))
    go_ret
    exact ⟨ret_b hr.out.symm, (Below.refl _ _).alloc (Nat.le_refl _) _⟩
  have k0 : 0 ≤ k := by omega
  have k7 : k ≤ 7 := by omega
  clear hk
  have hn1 := Lib.hid (noName_of s)
  have hn0 := Lib.hid (noName_not s)
  by_cases h0 : k = 0
  · subst h0
    have hr := Lib.hid (tokB_0 n s)
    by_cases hn : 0 ≤ n ∧ n ≤ 999
    · obtain ⟨n0, n1⟩ := hn
      by_cases hs : s.size = 0
      · have hN := Lib.hid (hn1.out hs)
        obtain rfl := empty_yes s hs
        clear hs hm
        go_enter Tryd.func107, Tryd.ntmps107
        go_wp2_with (first | (go_at_call 32; refine (s_in _ _ _ _).mono ?_; rintro e w' ⟨rfl, rfl⟩))
        go_ret
        exact ⟨ret_b (by rw [hr.out, hN.out, decide_eq_true n0, decide_eq_true n1]; rfl), (Below.refl _ _).alloc (Nat.le_refl _) _⟩
      · have hN := Lib.hid (hn0.out hs)
        have hE := empty_no s hs
        clear hs
        go_enter Tryd.func107, Tryd.ntmps107
        go_wp2_with (first | (go_at_call 32; refine (s_in _ _ _ _).mono ?_; rintro e w' ⟨rfl, rfl⟩))
        go_ret
        exact ⟨ret_b (by rw [hr.out, hN.out]; simp), (Below.refl _ _).alloc (Nat.le_refl _) _⟩
    · have hd : (decide (0 ≤ n) && decide (n ≤ 999)) = false := by simp; omega
      have HD := Lib.hid hd
      go_enter Tryd.func107, Tryd.ntmps107
      go_wp2_with (first | (go_at_call 32; refine (s_in _ _ _ _).mono ?_; rintro e w' ⟨rfl, rfl⟩))
      go_ret
      exact ⟨ret_b (by rw [hr.out, ← Bool.and_assoc, HD.out]; rfl), (Below.refl _ _).alloc (Nat.le_refl _) _⟩
  have e0 : (k == 0) = false := by simpa using h0
  by_cases h1 : k = 1
  · subst h1
    have hr := Lib.hid (tokB_1 n s)
    by_cases hn : n = 0
    · subst hn
      go_enter Tryd.func107, Tryd.ntmps107
      go_wp2_with (first | (go_at_call 32; refine (s_in _ _ _ _).mono ?_; rintro e w' ⟨rfl, rfl⟩) | (go_at_call 50; refine (s_name _ _ hm).mono ?_; rintro e w' ⟨rfl, rfl⟩))
      go_ret
      exact ⟨ret_b (by rw [hr.out]; rfl), (Below.refl _ _).alloc (Nat.le_refl _) _⟩
    · have en : (n == 0) = false := by simpa using hn
      have HN := Lib.hid hn
      clear hn
      go_enter Tryd.func107, Tryd.ntmps107
      go_wp2_with (first | (go_at_call 32; refine (s_in _ _ _ _).mono ?_; rintro e w' ⟨rfl, rfl⟩) | (go_at_call 50; refine (s_name _ _ hm).mono ?_; rintro e w' ⟨rfl, rfl⟩))
      go_ret
      exact ⟨ret_b (by rw [hr.out, decide_eq_false HN.out]; rfl), (Below.refl _ _).alloc (Nat.le_refl _) _⟩
  have e1 : (k == 1) = false := by simpa using h1
  by_cases h7 : k = 7
  · subst h7
    have hr := Lib.hid (tokB_7 n s)
    by_cases hn : 0 ≤ n ∧ n ≤ 4
    · obtain ⟨n0, n1⟩ := hn
      go_enter Tryd.func107, Tryd.ntmps107
      go_wp2_with (first | (go_at_call 32; refine (s_in _ _ _ _).mono ?_; rintro e w' ⟨rfl, rfl⟩) | (go_at_call 50; refine (s_name _ _ hm).mono ?_; rintro e w' ⟨rfl, rfl⟩))
      go_ret
      exact ⟨ret_b (by rw [hr.out, decide_eq_true n0, decide_eq_true n1]; rfl), (Below.refl _ _).alloc (Nat.le_refl _) _⟩
    · have hd : (decide (0 ≤ n) && decide (n ≤ 4)) = false := by simp; omega
      have HD := Lib.hid hd
      go_enter Tryd.func107, Tryd.ntmps107
      go_wp2_with (first | (go_at_call 32; refine (s_in _ _ _ _).mono ?_; rintro e w' ⟨rfl, rfl⟩))
      go_ret
      exact ⟨ret_b (by rw [hr.out, ← Bool.and_assoc, HD.out]; rfl), (Below.refl _ _).alloc (Nat.le_refl _) _⟩
  have e7 : (k == 7) = false := by simpa using h7
  have hr : Hid (tokB ⟨k, n, s⟩ = (decide (n = 0) && noName s)) := Lib.hid (by rw [tokB_op k n s h0 h1 h7, decide_eq_true (by omega : 2 ≤ k), decide_eq_true (by omega : k ≤ 6)]; rfl)
  clear h0 h1 h7
  by_cases hn : n = 0
  · subst hn
    by_cases hs : s.size = 0
    · have hN := Lib.hid (hn1.out hs)
      obtain rfl := empty_yes s hs
      clear hs hm
      go_enter Tryd.func107, Tryd.ntmps107
      go_wp2_with (first | (go_at_call 32; refine (s_in _ _ _ _).mono ?_; rintro e w' ⟨rfl, rfl⟩))
      go_ret
      exact ⟨ret_b (by rw [hr.out, hN.out]; rfl), (Below.refl _ _).alloc (Nat.le_refl _) _⟩
    · have hN := Lib.hid (hn0.out hs)
      have hE := empty_no s hs
      clear hs
      go_enter Tryd.func107, Tryd.ntmps107
      go_wp2_with (first | (go_at_call 32; refine (s_in _ _ _ _).mono ?_; rintro e w' ⟨rfl, rfl⟩))
      go_ret
      exact ⟨ret_b (by rw [hr.out, hN.out]; rfl), (Below.refl _ _).alloc (Nat.le_refl _) _⟩
  · have en : (n == 0) = false := by simpa using hn
    have HN := Lib.hid hn
    clear hn
    go_enter Tryd.func107, Tryd.ntmps107
    go_wp2_with (first | (go_at_call 32; refine (s_in _ _ _ _).mono ?_; rintro e w' ⟨rfl, rfl⟩))
    go_ret
    exact ⟨ret_b (by rw [hr.out, decide_eq_false HN.out]; rfl), (Below.refl _ _).alloc (Nat.le_refl _) _⟩

/-- The same at a token that is handed on. -/
theorem s_tok' (t : TokL) (w : World) (hm : t.name.size ≤ maxLen) :
    Calls Tryd.prog 107 #[.agg #[.int .i64 t.kind, .int .i64 t.num, .string t.name]] w fun e w' => e = .returned (.bool (tokB t)) ∧ Below w.heap.size w w' := s_tok t.kind t.num t.name w hm

set_option maxHeartbeats 1000000 in
theorem s_arity (k n : Int) (s : ByteArray) (w : World) (hm : s.size ≤ maxLen) :
    Calls Tryd.prog 99 #[.agg #[.int .i64 k, .int .i64 n, .string s]] w fun e w' => e = .returned (.int .i64 (arZ ⟨k, n, s⟩)) ∧ Below w.heap.size w w' := by
  obtain ⟨b, hb⟩ : ∃ b, tokB ⟨k, n, s⟩ = b := ⟨_, rfl⟩
  have HT : Hid (∀ W : World, Calls Tryd.prog 107 #[.agg #[.int .i64 k, .int .i64 n, .string s]] W fun e w' => e = .returned (.bool b) ∧ Below W.heap.size W w') := Lib.hid (fun W => hb ▸ s_tok k n s W hm)
  cases b
  · have hr := Lib.hid (arZ_bad _ hb)
    clear hb
    go_enter Tryd.func99, Tryd.ntmps99
    go_wp2_with (first | (go_at_call 107; refine (HT.out _).mono ?_; rintro e w1 ⟨rfl, b1⟩))
    go_ret
    exact ⟨ret_int hr.out.symm, ((Below.refl _ _).alloc (Nat.le_refl _) _).trans (b1.mono (by simp))⟩
  · by_cases h0 : k = 0
    · subst h0
      have hr := Lib.hid (arZ_0 _ _ hb)
      clear hb
      go_enter Tryd.func99, Tryd.ntmps99
      go_wp2_with fail
      refine (HT.out _).mono ?_; rintro e w1 ⟨rfl, b1⟩
      have hc := fun o => b1.cell (p := ⟨w.heap.size, o, none⟩) (by simp)
      go_wp2
      go_ret
      exact ⟨ret_int hr.out.symm, ((Below.refl _ _).alloc (Nat.le_refl _) _).trans (b1.mono (by simp))⟩
    by_cases h1 : k = 1
    · subst h1
      have hr := Lib.hid (arZ_1 _ _ hb)
      clear hb
      go_enter Tryd.func99, Tryd.ntmps99
      go_wp2_with fail
      refine (HT.out _).mono ?_; rintro e w1 ⟨rfl, b1⟩
      have hc := fun o => b1.cell (p := ⟨w.heap.size, o, none⟩) (by simp)
      go_wp2
      go_ret
      exact ⟨ret_int hr.out.symm, ((Below.refl _ _).alloc (Nat.le_refl _) _).trans (b1.mono (by simp))⟩
    have e0 : (k == 0) = false := by simpa using h0
    have e1 : (k == 1) = false := by simpa using h1
    by_cases h7 : k = 7
    · subst h7
      have hr := Lib.hid (arZ_7 _ _ hb)
      clear hb h0 h1
      go_enter Tryd.func99, Tryd.ntmps99
      go_wp2_with fail
      refine (HT.out _).mono ?_; rintro e w1 ⟨rfl, b1⟩
      have hc := fun o => b1.cell (p := ⟨w.heap.size, o, none⟩) (by simp)
      go_wp2
      go_ret
      exact ⟨ret_int hr.out.symm, ((Below.refl _ _).alloc (Nat.le_refl _) _).trans (b1.mono (by simp))⟩
    · have hr := Lib.hid (arZ_op _ _ _ hb h0 h1 h7)
      have e7 : (k == 7) = false := by simpa using h7
      clear hb h0 h1 h7
      go_enter Tryd.func99, Tryd.ntmps99
      go_wp2_with fail
      refine (HT.out _).mono ?_; rintro e w1 ⟨rfl, b1⟩
      have hc := fun o => b1.cell (p := ⟨w.heap.size, o, none⟩) (by simp)
      go_wp2
      go_ret
      exact ⟨ret_int hr.out.symm, ((Below.refl _ _).alloc (Nat.le_refl _) _).trans (b1.mono (by simp))⟩
end Go.Proofs.YtcnnfhcpkbjolaaDoor

/-! The program's NameOk; The program's TokOk and Arity -/
/-! The program's NameOk -/
namespace Go.Proofs.YtcnnfhcpkbjolaaDoor
open Go.RowKit Go.Lib

theorem i_name (s : ByteArray) (w : World) (hm : s.size ≤ maxLen) : Calls Tryd.prog 121 #[.string s] w fun e w' => e = .returned (.bool (nameB s)) ∧ w = w' := by
  unfold maxLen at hm
  by_cases hs0 : s.size < 1
  · have hr := Lib.hid (nameB_short s (by omega))
    go_enter Tryd.func121, Tryd.ntmps121
    go_wp2
    go_ret
    exact ⟨ret_b hr.out.symm, rfl⟩
  by_cases hs1 : 8 < s.size
  · have hr := Lib.hid (nameB_long s hs1)
    go_enter Tryd.func121, Tryd.ntmps121
    go_wp2
    go_ret
    exact ⟨ret_b hr.out.symm, rfl⟩
  go_enter Tryd.func121, Tryd.ntmps121
  go_wp2_with fail
  go_loop [14] (fun i => ∃ k : Nat, k ≤ s.size ∧ i = .int .i64 (k : Int) ∧ (s.data.toList.take k).all lowB = true) (fun i => s.size - (intOf i).toNat)
  case atStart => exact ⟨0, Nat.zero_le _, rfl, rfl⟩
  case round =>
    obtain ⟨k, hk, rfl, ha⟩ := hrel
    have HA := Lib.hid ha
    clear ha
    by_cases hlt : k < s.size
    · have hp : s[k].toNat < 256 := s[k].toNat_lt
      by_cases hbad : s[k].toNat < 97 ∨ 122 < s[k].toNat
      · have hr := Lib.hid (nameB_bad s k hlt hbad)
        go_wp2_with fail
        all_goals go_ret
        all_goals exact ⟨ret_b hr.out.symm, rfl⟩
      · have h1 : 97 ≤ s[k].toNat := by omega
        have h2 : s[k].toNat ≤ 122 := by omega
        have HN := Lib.hid (low_next s k hlt HA.out h1 h2)
        clear hbad
        go_wp2
        go_round
        case rel => exact ⟨k + 1, by omega, by go_num, HN.out⟩
        case measure => simp [intOf]; omega
    · have hkk : k = s.size := by omega
      have hr := Lib.hid (nameB_good s (by omega) (by omega) (by have := HA.out; rw [hkk] at this; exact this))
      clear hkk
      go_wp2
      go_ret
      exact ⟨ret_b hr.out.symm, rfl⟩
end Go.Proofs.YtcnnfhcpkbjolaaDoor

/-! The program's TokOk and Arity -/
namespace Go.Proofs.YtcnnfhcpkbjolaaDoor
open Go.RowKit Go.Lib

theorem i_oper (x : Int) (w : World) : Calls Tryd.prog 96 #[.int .i64 x] w fun e w' => e = .returned (.bool (decide (2 ≤ x) && decide (x ≤ 6))) ∧ w = w' := by
  by_cases h1 : 2 ≤ x <;> by_cases h2 : x ≤ 6
  all_goals
    go_enter Tryd.func96, Tryd.ntmps96
    go_wp2
    go_ret
    exact ⟨ret_b (by simp [h1, h2]), rfl⟩

set_option maxHeartbeats 1000000 in
theorem i_tok (k n : Int) (s : ByteArray) (w : World) (hm : s.size ≤ maxLen) :
    Calls Tryd.prog 98 #[.agg #[.int .i64 k, .int .i64 n, .string s]] w fun e w' => e = .returned (.bool (tokB ⟨k, n, s⟩)) ∧ Below w.heap.size w w' := by
  by_cases hk : k < 0 ∨ 7 < k
  · have hr := Lib.hid (tokB_out k n s hk)
    have hd : (decide (2 ≤ k) && decide (k ≤ 6)) = false := by simp; omega
    have e0 : (k == 0) = false := by simp; omega
    have e1 : (k == 1) = false := by simp; omega
    have e7 : (k == 7) = false := by simp; omega
    go_enter Tryd.func98, Tryd.ntmps98
    go_wp2_with (first | (go_at_call 96; refine (i_oper _ _).mono ?_; rintro e w' ⟨rfl, rfl⟩))
    go_ret
    exact ⟨ret_b hr.out.symm, (Below.refl _ _).alloc (Nat.le_refl _) _⟩
  have k0 : 0 ≤ k := by omega
  have k7 : k ≤ 7 := by omega
  clear hk
  have hn1 := Lib.hid (noName_of s)
  have hn0 := Lib.hid (noName_not s)
  by_cases h0 : k = 0
  · subst h0
    have hr := Lib.hid (tokB_0 n s)
    by_cases hn : 0 ≤ n ∧ n ≤ 999
    · obtain ⟨n0, n1⟩ := hn
      by_cases hs : s.size = 0
      · have hN := Lib.hid (hn1.out hs)
        obtain rfl := empty_yes s hs
        clear hs hm
        go_enter Tryd.func98, Tryd.ntmps98
        go_wp2
        go_ret
        exact ⟨ret_b (by rw [hr.out, hN.out, decide_eq_true n0, decide_eq_true n1]; rfl), (Below.refl _ _).alloc (Nat.le_refl _) _⟩
      · have hN := Lib.hid (hn0.out hs)
        have hE := empty_no s hs
        clear hs
        go_enter Tryd.func98, Tryd.ntmps98
        go_wp2
        go_ret
        exact ⟨ret_b (by rw [hr.out, hN.out]; simp), (Below.refl _ _).alloc (Nat.le_refl _) _⟩
    · have hd : (decide (0 ≤ n) && decide (n ≤ 999)) = false := by simp; omega
      have HD := Lib.hid hd
      clear hd
      by_cases n0 : 0 ≤ n
      · have n1 : ¬ n ≤ 999 := by omega
        clear hn
        go_enter Tryd.func98, Tryd.ntmps98
        go_wp2
        go_ret
        exact ⟨ret_b (by rw [hr.out, ← Bool.and_assoc, HD.out]; rfl), (Below.refl _ _).alloc (Nat.le_refl _) _⟩
      · clear hn
        go_enter Tryd.func98, Tryd.ntmps98
        go_wp2
        go_ret
        exact ⟨ret_b (by rw [hr.out, ← Bool.and_assoc, HD.out]; rfl), (Below.refl _ _).alloc (Nat.le_refl _) _⟩
  have e0 : (k == 0) = false := by simpa using h0
  by_cases h1 : k = 1
  · subst h1
    have hr := Lib.hid (tokB_1 n s)
    by_cases hn : n = 0
    · subst hn
      go_enter Tryd.func98, Tryd.ntmps98
      go_wp2_with (first | (go_at_call 121; refine (i_name _ _ hm).mono ?_; rintro e w' ⟨rfl, rfl⟩))
      go_ret
      exact ⟨ret_b (by rw [hr.out]; rfl), (Below.refl _ _).alloc (Nat.le_refl _) _⟩
    · have en : (n == 0) = false := by simpa using hn
      have HN := Lib.hid hn
      clear hn
      go_enter Tryd.func98, Tryd.ntmps98
      go_wp2_with (first | (go_at_call 121; refine (i_name _ _ hm).mono ?_; rintro e w' ⟨rfl, rfl⟩))
      go_ret
      exact ⟨ret_b (by rw [hr.out, decide_eq_false HN.out]; rfl), (Below.refl _ _).alloc (Nat.le_refl _) _⟩
  have e1 : (k == 1) = false := by simpa using h1
  by_cases h7 : k = 7
  · subst h7
    have hr := Lib.hid (tokB_7 n s)
    by_cases hn : 0 ≤ n ∧ n ≤ 4
    · obtain ⟨n0, n1⟩ := hn
      go_enter Tryd.func98, Tryd.ntmps98
      go_wp2_with (first | (go_at_call 121; refine (i_name _ _ hm).mono ?_; rintro e w' ⟨rfl, rfl⟩))
      go_ret
      exact ⟨ret_b (by rw [hr.out, decide_eq_true n0, decide_eq_true n1]; rfl), (Below.refl _ _).alloc (Nat.le_refl _) _⟩
    · have hd : (decide (0 ≤ n) && decide (n ≤ 4)) = false := by simp; omega
      have HD := Lib.hid hd
      clear hd
      by_cases n0 : 0 ≤ n
      · have n1 : ¬ n ≤ 4 := by omega
        clear hn
        go_enter Tryd.func98, Tryd.ntmps98
        go_wp2
        go_ret
        exact ⟨ret_b (by rw [hr.out, ← Bool.and_assoc, HD.out]; rfl), (Below.refl _ _).alloc (Nat.le_refl _) _⟩
      · clear hn
        go_enter Tryd.func98, Tryd.ntmps98
        go_wp2
        go_ret
        exact ⟨ret_b (by rw [hr.out, ← Bool.and_assoc, HD.out]; rfl), (Below.refl _ _).alloc (Nat.le_refl _) _⟩
  have e7 : (k == 7) = false := by simpa using h7
  have hr : Hid (tokB ⟨k, n, s⟩ = (decide (n = 0) && noName s)) := Lib.hid (by rw [tokB_op k n s h0 h1 h7, decide_eq_true (by omega : 2 ≤ k), decide_eq_true (by omega : k ≤ 6)]; rfl)
  have k2 : 2 ≤ k := by omega
  have k6 : k ≤ 6 := by omega
  clear h0 h1 h7
  by_cases hn : n = 0
  · subst hn
    by_cases hs : s.size = 0
    · have hN := Lib.hid (hn1.out hs)
      obtain rfl := empty_yes s hs
      clear hs hm
      go_enter Tryd.func98, Tryd.ntmps98
      go_wp2_with (first | (go_at_call 96; refine (i_oper _ _).mono ?_; rintro e w' ⟨rfl, rfl⟩))
      go_ret
      exact ⟨ret_b (by rw [hr.out, hN.out]; rfl), (Below.refl _ _).alloc (Nat.le_refl _) _⟩
    · have hN := Lib.hid (hn0.out hs)
      have hE := empty_no s hs
      clear hs
      go_enter Tryd.func98, Tryd.ntmps98
      go_wp2_with (first | (go_at_call 96; refine (i_oper _ _).mono ?_; rintro e w' ⟨rfl, rfl⟩))
      go_ret
      exact ⟨ret_b (by rw [hr.out, hN.out]; rfl), (Below.refl _ _).alloc (Nat.le_refl _) _⟩
  · have en : (n == 0) = false := by simpa using hn
    have HN := Lib.hid hn
    clear hn
    go_enter Tryd.func98, Tryd.ntmps98
    go_wp2_with (first | (go_at_call 96; refine (i_oper _ _).mono ?_; rintro e w' ⟨rfl, rfl⟩))
    go_ret
    exact ⟨ret_b (by rw [hr.out, decide_eq_false HN.out]; rfl), (Below.refl _ _).alloc (Nat.le_refl _) _⟩

/-- The method, at a token. -/
theorem i_meth (k n : Int) (s : ByteArray) (w : World) (hb : tokB ⟨k, n, s⟩ = true) :
    Calls Tryd.prog 118 #[.agg #[.int .i64 k, .int .i64 n, .string s]] w fun e w' => e = .returned (.int .i64 (arZ ⟨k, n, s⟩)) ∧ Below w.heap.size w w' := by
  by_cases h0 : k = 0
  · subst h0
    have hr := Lib.hid (arZ_0 _ _ hb)
    clear hb
    go_enter Tryd.func118, Tryd.ntmps118
    go_wp2
    go_ret
    exact ⟨ret_int hr.out.symm, (Below.refl _ _).alloc (Nat.le_refl _) _⟩
  by_cases h1 : k = 1
  · subst h1
    have hr := Lib.hid (arZ_1 _ _ hb)
    clear hb
    go_enter Tryd.func118, Tryd.ntmps118
    go_wp2
    go_ret
    exact ⟨ret_int hr.out.symm, (Below.refl _ _).alloc (Nat.le_refl _) _⟩
  have e0 : (k == 0) = false := by simpa using h0
  have e1 : (k == 1) = false := by simpa using h1
  by_cases h7 : k = 7
  · subst h7
    have hr := Lib.hid (arZ_7 _ _ hb)
    clear hb h0 h1
    go_enter Tryd.func118, Tryd.ntmps118
    go_wp2
    go_ret
    exact ⟨ret_int hr.out.symm, (Below.refl _ _).alloc (Nat.le_refl _) _⟩
  · have hr := Lib.hid (arZ_op _ _ _ hb h0 h1 h7)
    have e7 : (k == 7) = false := by simpa using h7
    clear hb h0 h1 h7
    go_enter Tryd.func118, Tryd.ntmps118
    go_wp2
    go_ret
    exact ⟨ret_int hr.out.symm, (Below.refl _ _).alloc (Nat.le_refl _) _⟩

set_option maxHeartbeats 1000000 in
theorem i_ask (k n : Int) (s : ByteArray) (w : World) (hm : s.size ≤ maxLen) :
    Calls Tryd.prog 117 #[.agg #[.int .i64 k, .int .i64 n, .string s], .func (.func 118) #[] #[], .int .i64 (-1)] w fun e w' => e = .returned (.int .i64 (arZ ⟨k, n, s⟩)) ∧ Below w.heap.size w w' := by
  obtain ⟨b, hb⟩ : ∃ b, tokB ⟨k, n, s⟩ = b := ⟨_, rfl⟩
  have HT : Hid (∀ W : World, Calls Tryd.prog 98 #[.agg #[.int .i64 k, .int .i64 n, .string s]] W fun e w' => e = .returned (.bool b) ∧ Below W.heap.size W w') := Lib.hid (fun W => hb ▸ i_tok k n s W hm)
  cases b
  · have hr := Lib.hid (arZ_bad _ hb)
    clear hb
    go_enter Tryd.func117, Tryd.ntmps117
    go_wp2_with (first | (go_at_call 98; refine (HT.out _).mono ?_; rintro e w1 ⟨rfl, b1⟩))
    go_ret
    exact ⟨ret_int hr.out.symm, ((Below.refl _ _).alloc (Nat.le_refl _) _).trans (b1.mono (by simp))⟩
  · have HB := Lib.hid hb
    clear hb
    go_enter Tryd.func117, Tryd.ntmps117
    go_wp2_with fail
    refine (HT.out _).mono ?_; rintro e w1 ⟨rfl, b1⟩
    have hc := fun o => b1.cell (p := ⟨w.heap.size, o, none⟩) (by simp)
    go_wp2_with fail
    refine (i_meth k n s _ HB.out).mono ?_; rintro e w2 ⟨rfl, b2⟩
    go_wp2
    go_ret
    exact ⟨rfl, (((Below.refl _ _).alloc (Nat.le_refl _) _).trans (b1.mono (by simp))).trans (b2.mono (by have := b1.size; simp at this; omega))⟩

theorem i_arity (k n : Int) (s : ByteArray) (w : World) (hm : s.size ≤ maxLen) :
    Calls Tryd.prog 95 #[.agg #[.int .i64 k, .int .i64 n, .string s]] w fun e w' => e = .returned (.int .i64 (arZ ⟨k, n, s⟩)) ∧ Below w.heap.size w w' := by
  go_enter Tryd.func95, Tryd.ntmps95
  go_wp2_with fail
  refine (i_ask k n s _ hm).mono ?_; rintro e w1 ⟨rfl, b1⟩
  go_wp2
  go_ret
  exact ⟨rfl, ((Below.refl _ _).alloc (Nat.le_refl _) _).trans (b1.mono (by simp))⟩
end Go.Proofs.YtcnnfhcpkbjolaaDoor
