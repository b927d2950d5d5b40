/- The program's FormatTok. -/
import Derived.Test.YthmllcpldgbbcaaGreatDoorNtImpl
import Derived.Test.YthmllcpldgbbcaaGreatDoorItoaImpl
import Derived.Test.YthmllcpldgbbcaaGreatDoorPlainA
import Derived.Deep.RegionHeld3
namespace Go.Proofs.YthmllcpldgbbcaaGreatDoor
open Go.RowKit Go.Lib

abbrev Tab (w : World) : Prop := Lib.TabIs Tryz.prog w "internal/strconv.uint64pow10" .u64 Lib.pow10Tab

set_option maxRecDepth 100000 in
set_option maxHeartbeats 1000000 in
theorem i_text (k n : Int) (s : ByteArray) (w : World) (hb : tokB ⟨k, n, s⟩ = true) (htab : Tab w) :
    Calls Tryz.prog 74 #[.agg #[.int .i64 k, .int .i64 n, .string s]] w fun e w' => e = .returned (.string (fmtT ⟨k, n, s⟩)) ∧ Below w.heap.size w w' := by
  have HTAB := Lib.hid htab
  clear htab
  by_cases h0 : k = 0
  · subst h0
    have hr := Lib.hid (fmtT_0 _ _ hb)
    have n0 := (tok_0 _ _ hb).1
    have n1 := (tok_0 _ _ hb).2.1
    clear hb
    obtain ⟨t, ht⟩ : ∃ t, numT n = t := ⟨_, rfl⟩
    have HF : Hid (∀ W : World, Below w.heap.size w W → Calls Tryz.prog 92 #[.int .i64 n] W fun e w' => e = .returned (.string t) ∧ Below W.heap.size W w') := Lib.hid (fun W hW => ht ▸ i_itoa n W (by omega) (by omega) (pow_on HTAB.out hW))
    rw [ht] at hr
    clear ht
    have B0 := fun (o : Obj) => (Below.refl w.heap.size w).alloc (Nat.le_refl _) o
    have HB0 := Lib.hid B0
    clear B0
    go_enter Tryz.func74, Tryz.ntmps74
    go_wp2_with fail
    refine (HF.out _ (HB0.out _)).mono ?_; rintro e w1 ⟨rfl, b1⟩
    have B1 := Lib.hid ((HB0.out _).trans (b1.mono (by simp)))
    clear b1
    go_wp2
    go_ret
    exact ⟨ret_s hr.out.symm, B1.out⟩
  by_cases h1 : k = 1
  · subst h1
    have hr := Lib.hid (fmtT_1 _ _ hb)
    clear hb
    go_enter Tryz.func74, Tryz.ntmps74
    go_wp2
    go_ret
    exact ⟨ret_s hr.out.symm, (Below.refl _ _).alloc (Nat.le_refl _) _⟩
  by_cases h7 : k = 7
  · subst h7
    have hr := Lib.hid (fmtT_7 _ _ hb)
    have n0 := (tok_7 _ _ hb).1
    have n1 := (tok_7 _ _ hb).2.1
    have hsz := (nameB_size _ (tok_7 _ _ hb).2.2).2.1
    have hts := numT_size n n0 (by omega)
    clear hb
    obtain ⟨t, ht⟩ : ∃ t, numT n = t := ⟨_, rfl⟩
    have HF : Hid (∀ W : World, Below w.heap.size w W → Calls Tryz.prog 92 #[.int .i64 n] W fun e w' => e = .returned (.string t) ∧ Below W.heap.size W w') := Lib.hid (fun W hW => ht ▸ i_itoa n W (by omega) (by omega) (pow_on HTAB.out hW))
    rw [ht] at hr hts
    clear ht
    have e47 : (⟨#[47]⟩ : ByteArray).size = 1 := rfl
    have p1 : ∀ W : World, (Op.stringOp .add s ⟨#[47]⟩).run Tryz.prog W = .ok (.string (s ++ ⟨#[47]⟩)) W := fun W => run_string_add_sum (w := W) s ⟨#[47]⟩ (by omega)
    have p2 : ∀ W : World, (Op.stringOp .add (s ++ ⟨#[47]⟩) t).run Tryz.prog W = .ok (.string (s ++ ⟨#[47]⟩ ++ t)) W := fun W => run_string_add_sum (w := W) (s ++ ⟨#[47]⟩) t (by rw [ByteArray.size_append]; omega)
    clear e47
    have HB0 := Lib.hid (fun (o : Obj) => ((Below.refl w.heap.size w).alloc (Nat.le_refl _) o).drew)
    go_enter Tryz.func74, Tryz.ntmps74
    go_wp2_with fail
    go_region_held3 (fun w' => w'.cell? ⟨w.heap.size, 1, none⟩ = some (.int .i64 n) ∧ w'.cell? ⟨w.heap.size, 2, none⟩ = some (.string s))
      (first
        | go_keep
        | (go_split_ands
           refine ⟨(b2.cell (p := ⟨w.heap.size, _, none⟩) (by simp)).trans ?_, (b2.cell (p := ⟨w.heap.size, _, none⟩) (by simp)).trans ?_⟩ <;> assumption))
      (first
        | (go_at_call 92; refine (HF.out _ (HB0.out _)).mono ?_; rintro e w2 ⟨rfl, b2⟩))
    all_goals
      have B2 := Lib.hid ((HB0.out _).trans (b2.mono (by simp)))
      clear b2
      go_wp2
      go_ret
      exact ⟨ret_s (by rw [hr.out]), B2.out⟩
  · have hr := Lib.hid (fmtT_op _ _ _ hb h0 h1 h7)
    have k2 := (tok_op _ _ _ hb h0 h1 h7).1
    have k6 := (tok_op _ _ _ hb h0 h1 h7).2.1
    clear hb h0 h1 h7
    have : k = 2 ∨ k = 3 ∨ k = 4 ∨ k = 5 ∨ k = 6 := by omega
    rcases this with rfl | rfl | rfl | rfl | rfl
    all_goals
      go_enter Tryz.func74, Tryz.ntmps74
      go_wp2
      go_ret
      exact ⟨ret_s (by rw [hr.out]; rfl), (Below.refl _ _).alloc (Nat.le_refl _) _⟩

set_option maxHeartbeats 1000000 in
theorem i_asks (k n : Int) (s : ByteArray) (w : World) (hm : s.size ≤ maxLen) (htab : Tab w) :
    Calls Tryz.prog 73 #[.agg #[.int .i64 k, .int .i64 n, .string s], .func (.func 74) #[] #[], .string ⟨#[]⟩] w fun e w' => e = .returned (.string (fmtT ⟨k, n, s⟩)) ∧ Below w.heap.size w w' := by
  obtain ⟨b, hb⟩ : ∃ b, tokB ⟨k, n, s⟩ = b := ⟨_, rfl⟩
  have HTAB := Lib.hid htab
  clear htab
  have HT : Hid (∀ W : World, Calls Tryz.prog 91 #[.agg #[.int .i64 k, .int .i64 n, .string s]] W fun e w' => e = .returned (.bool b) ∧ Below W.heap.size W w') := Lib.hid (fun W => hb ▸ i_tok k n s W hm)
  cases b
  · have hr := Lib.hid (fmtT_bad _ hb)
    clear hb
    go_enter Tryz.func73, Tryz.ntmps73
    go_wp2_with (first | (go_at_call 91; refine (HT.out _).mono ?_; rintro e w1 ⟨rfl, b1⟩))
    go_ret
    exact ⟨ret_s hr.out.symm, ((Below.refl _ _).alloc (Nat.le_refl _) _).trans (b1.mono (by simp))⟩
  · have HB := Lib.hid hb
    clear hb
    go_enter Tryz.func73, Tryz.ntmps73
    go_wp2_with fail
    refine (HT.out _).mono ?_; rintro e w1 ⟨rfl, b1⟩
    have hc := fun o => b1.cell (p := ⟨w.heap.size, o, none⟩) (by simp)
    have B1 := Lib.hid (((Below.refl _ _).alloc (Nat.le_refl _) _).trans (b1.mono (by simp)))
    have z1 := B1.out.size
    clear b1
    go_wp2_with fail
    refine (i_text k n s _ HB.out (pow_on HTAB.out B1.out)).mono ?_; rintro e w2 ⟨rfl, b2⟩
    have B2 := Lib.hid (B1.out.trans (b2.mono z1))
    clear b2
    go_wp2
    go_ret
    exact ⟨rfl, B2.out⟩

theorem i_fmt (k n : Int) (s : ByteArray) (w : World) (hm : s.size ≤ maxLen) (htab : Tab w) :
    Calls Tryz.prog 52 #[.agg #[.int .i64 k, .int .i64 n, .string s]] w fun e w' => e = .returned (.string (fmtT ⟨k, n, s⟩)) ∧ Below w.heap.size w w' := by
  have HTAB := Lib.hid htab
  clear htab
  have HB0 := Lib.hid (fun (o : Obj) => ((Below.refl w.heap.size w).alloc (Nat.le_refl _) o))
  go_enter Tryz.func52, Tryz.ntmps52
  go_wp2_with fail
  refine (i_asks k n s _ hm (pow_on HTAB.out (HB0.out _))).mono ?_; rintro e w1 ⟨rfl, b1⟩
  have B1 := Lib.hid ((HB0.out _).trans (b1.mono (by simp)))
  clear b1
  go_wp2
  go_ret
  exact ⟨rfl, B1.out⟩
end Go.Proofs.YthmllcpldgbbcaaGreatDoor
