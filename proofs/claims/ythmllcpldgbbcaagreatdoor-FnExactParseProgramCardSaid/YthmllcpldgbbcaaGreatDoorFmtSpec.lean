/- The model's FormatTok. -/
import Derived.Test.YthmllcpldgbbcaaGreatDoorNtSpec
import Derived.Test.YthmllcpldgbbcaaGreatDoorFigItoa
import Derived.Test.YthmllcpldgbbcaaGreatDoorPlainA
import Derived.Deep.RegionHeld3
namespace Go.Proofs.YthmllcpldgbbcaaGreatDoor
open Go.RowKit Go.Lib

set_option maxRecDepth 100000 in
set_option maxHeartbeats 1000000 in
theorem s_fmt (k n : Int) (s : ByteArray) (w : World) (hm : s.size ≤ maxLen) :
    Calls Tryz.prog 97 #[.agg #[.int .i64 k, .int .i64 n, .string s]] w fun e w' => e = .returned (.string (fmtT ⟨k, n, s⟩)) ∧ Below w.heap.size w w' := by
  obtain ⟨b, hb⟩ : ∃ b, tokB ⟨k, n, s⟩ = b := ⟨_, rfl⟩
  have HT : Hid (∀ W : World, Calls Tryz.prog 96 #[.agg #[.int .i64 k, .int .i64 n, .string s]] W fun e w' => e = .returned (.bool b) ∧ Below W.heap.size W w') := Lib.hid (fun W => hb ▸ s_tok k n s W hm)
  cases b
  · have hr := Lib.hid (fmtT_bad _ hb)
    clear hb
    go_enter Tryz.func97, Tryz.ntmps97
    go_wp2_with (first | (go_at_call 96; refine (HT.out _).mono ?_; rintro e w1 ⟨rfl, b1⟩))
    go_ret
    exact ⟨ret_s hr.out.symm, ((Below.refl _ _).alloc (Nat.le_refl _) _).trans (b1.mono (by simp))⟩
  by_cases h0 : k = 0
  · subst h0
    have hr := Lib.hid (fmtT_0 _ _ hb)
    have n0 := (tok_0 _ _ hb).1
    have n1 := (tok_0 _ _ hb).2.1
    clear hb
    obtain ⟨t, ht⟩ : ∃ t, numT n = t := ⟨_, rfl⟩
    have HF : Hid (∀ W : World, Calls Tryz.prog 106 #[.int .i64 n] W fun e w' => e = .returned (.string t) ∧ Below W.heap.size W w') := Lib.hid (fun W => ht ▸ s_itoa n W (by omega) (by omega))
    rw [ht] at hr
    clear ht
    go_enter Tryz.func97, Tryz.ntmps97
    go_wp2_with fail
    refine (HT.out _).mono ?_; rintro e w1 ⟨rfl, b1⟩
    have hc := fun o => b1.cell (p := ⟨w.heap.size, o, none⟩) (by simp)
    have B1 := Lib.hid (((Below.refl _ _).alloc (Nat.le_refl _) _).trans (b1.mono (by simp)))
    have z1 := B1.out.size
    clear b1
    go_wp2_with fail
    refine (HF.out _).mono ?_; rintro e w2 ⟨rfl, b2⟩
    have B2 := Lib.hid (B1.out.trans (b2.mono z1))
    clear b2
    go_wp2
    go_ret
    exact ⟨ret_s hr.out.symm, B2.out⟩
  by_cases h1 : k = 1
  · subst h1
    have hr := Lib.hid (fmtT_1 _ _ hb)
    clear hb
    go_enter Tryz.func97, Tryz.ntmps97
    go_wp2_with fail
    refine (HT.out _).mono ?_; rintro e w1 ⟨rfl, b1⟩
    have hc := fun o => b1.cell (p := ⟨w.heap.size, o, none⟩) (by simp)
    go_wp2
    go_ret
    exact ⟨ret_s hr.out.symm, ((Below.refl _ _).alloc (Nat.le_refl _) _).trans (b1.mono (by simp))⟩
  by_cases h7 : k = 7
  · subst h7
    have hr := Lib.hid (fmtT_7 _ _ hb)
    obtain ⟨n0, n1, hn⟩ := tok_7 _ _ hb
    have hsz := (nameB_size _ hn).2.1
    have hts := numT_size n n0 (by omega)
    clear hb hn
    obtain ⟨t, ht⟩ : ∃ t, numT n = t := ⟨_, rfl⟩
    have HF : Hid (∀ W : World, Calls Tryz.prog 106 #[.int .i64 n] W fun e w' => e = .returned (.string t) ∧ Below W.heap.size W w') := Lib.hid (fun W => ht ▸ s_itoa n W (by omega) (by omega))
    rw [ht] at hr hts
    clear ht
    have e47 : (⟨#[47]⟩ : ByteArray).size = 1 := rfl
    have p1 : ∀ W : World, (Op.stringOp .add s ⟨#[47]⟩).run Tryz.prog W = .ok (.string (s ++ ⟨#[47]⟩)) W := fun W => run_string_add_sum (w := W) s ⟨#[47]⟩ (by omega)
    have p2 : ∀ W : World, (Op.stringOp .add (s ++ ⟨#[47]⟩) t).run Tryz.prog W = .ok (.string (s ++ ⟨#[47]⟩ ++ t)) W := fun W => run_string_add_sum (w := W) (s ++ ⟨#[47]⟩) t (by rw [ByteArray.size_append]; omega)
    clear e47
    go_enter Tryz.func97, Tryz.ntmps97
    go_wp2_with fail
    refine (HT.out _).mono ?_; rintro e w1 ⟨rfl, b1⟩
    have B1 := Lib.hid (((Below.refl _ _).alloc (Nat.le_refl _) _).trans (b1.mono (by simp)))
    have z1 : w.heap.size < w1.heap.size := by have := b1.size; simp at this; omega
    have d0 : w1.cell? ⟨w.heap.size, 0, none⟩ = some (.int .i64 7) := by rw [b1.cell (p := ⟨w.heap.size, _, none⟩) (by simp)]; simp [go_sem]
    have d1 : w1.cell? ⟨w.heap.size, 1, none⟩ = some (.int .i64 n) := by rw [b1.cell (p := ⟨w.heap.size, _, none⟩) (by simp)]; simp [go_sem]
    have d2 : w1.cell? ⟨w.heap.size, 2, none⟩ = some (.string s) := by rw [b1.cell (p := ⟨w.heap.size, _, none⟩) (by simp)]; simp [go_sem]
    clear b1
    go_wp2_with fail
    go_region_held3 (fun w' => w'.cell? ⟨w.heap.size, 1, none⟩ = some (.int .i64 n) ∧ w'.cell? ⟨w.heap.size, 2, none⟩ = some (.string s))
      (first
        | go_keep
        | (go_split_ands
           refine ⟨(b2.cell (p := ⟨w.heap.size, _, none⟩) z1).trans ?_, (b2.cell (p := ⟨w.heap.size, _, none⟩) z1).trans ?_⟩ <;> assumption))
      (first
        | (go_at_call 106; refine (HF.out _).mono ?_; rintro e w2 ⟨rfl, b2⟩))
    all_goals
      have B2 := Lib.hid (B1.out.drew.trans (b2.mono (Nat.le_of_lt z1)))
      clear b2
      go_wp2
      go_ret
      exact ⟨ret_s (by rw [hr.out]), B2.out⟩
  · have hr := Lib.hid (fmtT_op _ _ _ hb h0 h1 h7)
    have k2 := (tok_op _ _ _ hb h0 h1 h7).1
    have k6 := (tok_op _ _ _ hb h0 h1 h7).2.1
    clear hb h0 h1 h7
    have : k = 2 ∨ k = 3 ∨ k = 4 ∨ k = 5 ∨ k = 6 := by omega
    rcases this with rfl | rfl | rfl | rfl | rfl
    all_goals
      go_enter Tryz.func97, Tryz.ntmps97
      go_wp2_with fail
      refine (HT.out _).mono ?_; rintro e w1 ⟨rfl, b1⟩
      have hc := fun o => b1.cell (p := ⟨w.heap.size, o, none⟩) (by simp)
      go_wp2
      go_ret
      exact ⟨ret_s (by rw [hr.out]; rfl), ((Below.refl _ _).alloc (Nat.le_refl _) _).trans (b1.mono (by simp))⟩
end Go.Proofs.YthmllcpldgbbcaaGreatDoor
