/- PackText, UnpackText: the model's and the program's. -/
import Derived.Test.YtfemkbdgbpgjgaaVarDecS
import Derived.Test.YtfemkbdgbpgjgaaVarDecI
import Derived.Test.YtfemkbdgbpgjgaaPackPlain
namespace Go.Proofs.Ytfemkbdgbpgjgaa
open Go.RowKit Go.Lib

theorem cat_arr (a b : List UInt8) : (⟨a.toArray⟩ : ByteArray) ++ (⟨b.toArray⟩ : ByteArray) = ⟨(a ++ b).toArray⟩ := by
  apply bl_eq
  simp
theorem pk_str (s : ByteArray) : (⟨(vl s.size).toArray⟩ : ByteArray) ++ s = ⟨(pkT s.data.toList).toArray⟩ := by
  apply bl_eq
  unfold pkT
  rw [list_len]
  simp
theorem ret_sT {a b : ByteArray} (h : a = b) : Ending.returned (.string a) = .returned (.string b) := by rw [h]
theorem s_pkT (s : ByteArray) (w : World) (hm : s.size ≤ 1048576) : Calls Try.prog 40 #[.string s] w fun e w' => e = .returned (.string ⟨(pkT s.data.toList).toArray⟩) ∧ Below w.heap.size w w' := by
  have EN := Lib.hid (fun W => s_encV (s.size : Int) W)
  rw [encV_in s.size (by omega)] at EN
  have hl := vl_len6 s.size (by omega)
  have HP := Lib.hid (pk_str s)
  obtain ⟨T, hT⟩ : ∃ T : ByteArray, (⟨(vl s.size).toArray⟩ : ByteArray) = T := ⟨_, rfl⟩
  have hTs : T.size ≤ 6 := by rw [← hT]; exact hl
  rw [hT] at EN HP
  clear hT hl
  go_enter Try.func40, Try.ntmps40
  go_wp2_with fail
  refine (EN.out _).mono ?_
  rintro e w1 ⟨rfl, b1⟩
  have HB := Lib.hid b1
  clear b1
  go_wp2
  go_ret
  exact ⟨ret_sT HP.out, HB.out⟩
theorem i_pkT (s : ByteArray) (w : World) (hm : s.size ≤ 1048576) : Calls Try.prog 21 #[.string s] w fun e w' => e = .returned (.string ⟨(pkT s.data.toList).toArray⟩) ∧ Below w.heap.size w w' := by
  have EN := Lib.hid (fun W => i_encV (s.size : Int) W)
  rw [encV_in s.size (by omega)] at EN
  have hl := vl_len6 s.size (by omega)
  have HP := Lib.hid (pk_str s)
  obtain ⟨T, hT⟩ : ∃ T : ByteArray, (⟨(vl s.size).toArray⟩ : ByteArray) = T := ⟨_, rfl⟩
  have hTs : T.size ≤ 6 := by rw [← hT]; exact hl
  rw [hT] at EN HP
  clear hT hl
  go_enter Try.func21, Try.ntmps21
  go_wp2_with fail
  refine (EN.out _).mono ?_
  rintro e w1 ⟨rfl, b1⟩
  have HB := Lib.hid b1
  clear b1
  go_wp2
  go_ret
  exact ⟨ret_sT HP.out, HB.out⟩

/-- What UnpackText returns, as a value. -/
def utV (r : List UInt8 × Nat × Bool) : Value := .tuple #[.string ⟨r.1.toArray⟩, .int .i64 (r.2.1 : Int), .bool r.2.2]
theorem ret_uT {r q : List UInt8 × Nat × Bool} (h : r = q) : Ending.returned (utV r) = .returned (utV q) := by rw [h]
/-- A length and whether it fits. -/
def ulZ (s : List UInt8) (a : Int) : Nat × Nat × Bool := if (dvZ s a).2.2 = true ∧ a.toNat + (dvZ s a).2.1 + (dvZ s a).1 ≤ s.length then dvZ s a else (0, 0, false)
theorem i_unL (s : ByteArray) (a : Int) (w : World) (hm : s.size ≤ 140737488355328) (ha : (Lit.int .i64 a).wf = true) :
    Calls Try.prog 52 #[.string s, .int .i64 a] w fun e w' => e = .returned (dvV (ulZ s.data.toList a)) ∧ Below w.heap.size w w' := by
  have hb := bounds_i64 ha
  have DV := Lib.hid (fun W => i_decV s a W (by unfold maxLen; omega) ha)
  rcases dvZ_cases s.data.toList a with e | ⟨i, n, z, rfl, e, h1, h2, h3, h4⟩
  · have HV : Hid (ulZ s.data.toList a = (0, 0, false)) := Lib.hid (by unfold ulZ; rw [if_neg]; rw [e]; simp)
    rw [e] at DV
    dsimp only [dvV] at DV
    try simp only [Int.natCast_zero] at DV
    clear e
    go_enter Try.func52, Try.ntmps52
    go_wp2_with fail
    refine (DV.out _).mono ?_
    rintro e w1 ⟨rfl, b1⟩
    have HB := Lib.hid b1
    clear b1
    go_wp2
    go_ret3
    exact ⟨ret_dV (r := (0, 0, false)) HV.out.symm, HB.out⟩
  · rw [list_len] at h4
    by_cases hf : i + z + n ≤ s.size
    · have HV : Hid (ulZ s.data.toList (i : Int) = (n, z, true)) := Lib.hid (by unfold ulZ; rw [if_pos]; exact e; rw [e, list_len]; refine ⟨rfl, ?_⟩; rw [Int.toNat_natCast]; exact hf)
      rw [e] at DV
      dsimp only [dvV] at DV
      try simp only [Int.natCast_zero] at DV
      have k1 : ¬ (s.size : Int) - (i : Int) - (z : Int) < (n : Int) := by omega
      clear e hb h1 h2 h3 h4 hf
      go_enter Try.func52, Try.ntmps52
      go_wp2_with fail
      refine (DV.out _).mono ?_
      rintro e w1 ⟨rfl, b1⟩
      have HB := Lib.hid b1
      clear b1
      go_wp2
      go_ret3
      exact ⟨ret_dV (r := (n, z, true)) HV.out.symm, HB.out⟩
    · have HV : Hid (ulZ s.data.toList (i : Int) = (0, 0, false)) := Lib.hid (by unfold ulZ; rw [if_neg]; rw [e, list_len]; simp only [Int.toNat_natCast]; omega)
      rw [e] at DV
      dsimp only [dvV] at DV
      try simp only [Int.natCast_zero] at DV
      have k1 : (s.size : Int) - (i : Int) - (z : Int) < (n : Int) := by omega
      clear e hb h1 h2 h3 hf
      go_enter Try.func52, Try.ntmps52
      go_wp2_with fail
      refine (DV.out _).mono ?_
      rintro e w1 ⟨rfl, b1⟩
      have HB := Lib.hid b1
      clear b1
      go_wp2
      go_ret3
      exact ⟨ret_dV (r := (0, 0, false)) HV.out.symm, HB.out⟩
theorem ulZ_cases (s : List UInt8) (a : Int) : (ulZ s a = (0, 0, false) ∧ unT s a = ([], 0, false) ∧ unZ s a = ([], 0, false)) ∨
    ∃ i n z : Nat, a = (i : Int) ∧ dvZ s (i : Int) = (n, z, true) ∧ ulZ s (i : Int) = (n, z, true) ∧ 1 ≤ z ∧ z ≤ 6 ∧ i + z + n ≤ s.length ∧ unT s (i : Int) = ((s.drop (i + z)).take n, z + n, true) := by
  rcases dvZ_cases s a with e | ⟨i, n, z, rfl, e, h1, h2, h3, h4⟩
  · exact .inl ⟨by unfold ulZ; rw [if_neg]; rw [e]; simp, unT_no s a e, unZ_no s a e⟩
  · by_cases hf : i + z + n ≤ s.length
    · exact .inr ⟨i, n, z, rfl, e, by unfold ulZ; rw [if_pos]; exact e; rw [e]; refine ⟨rfl, ?_⟩; rw [Int.toNat_natCast]; exact hf, h2, h3, hf, unT_some s i n z e hf⟩
    · exact .inl ⟨by unfold ulZ; rw [if_neg]; rw [e]; simp only [Int.toNat_natCast]; omega, unT_short s i n z e (by omega), unZ_short s i n z e (by omega) h4⟩
theorem cut_str (s : ByteArray) (p n : Nat) : s.extract p (p + n) = ⟨((s.data.toList.drop p).take n).toArray⟩ := by
  apply bl_eq
  simp [List.take_drop]
theorem i_unT (s : ByteArray) (a : Int) (w : World) (hm : s.size ≤ 140737488355328) (ha : (Lit.int .i64 a).wf = true) :
    Calls Try.prog 22 #[.string s, .int .i64 a] w fun e w' => e = .returned (utV (unT s.data.toList a)) ∧ Below w.heap.size w w' := by
  have UL := Lib.hid (fun W => i_unL s a W hm ha)
  rcases ulZ_cases s.data.toList a with ⟨e, hv, _⟩ | ⟨i, n, z, rfl, _, e, h1, h2, h3, hv⟩
  · rw [e] at UL
    dsimp only [dvV] at UL
    try simp only [Int.natCast_zero] at UL
    have HV := Lib.hid hv
    clear e hv
    go_enter Try.func22, Try.ntmps22
    go_wp2_with fail
    refine (UL.out _).mono ?_
    rintro e w1 ⟨rfl, b1⟩
    have HB := Lib.hid b1
    clear b1
    go_wp2
    go_ret3
    exact ⟨ret_uT (r := ([], 0, false)) HV.out.symm, HB.out⟩
  · rw [e] at UL
    dsimp only [dvV] at UL
    try simp only [Int.natCast_zero] at UL
    rw [list_len] at h3
    have HV : Hid (utV (unT s.data.toList (i : Int)) = .tuple #[.string (s.extract (i + z) (i + z + n)), .int .i64 ((z : Int) + (n : Int)), .bool true]) := Lib.hid (by rw [hv, cut_str]; unfold utV; rw [Int.natCast_add])
    have k0 : (0 : Int) ≤ (i : Int) + (z : Int) := by omega
    have k1 : (i : Int) + (z : Int) + (n : Int) ≤ (s.size : Int) := by omega
    have k2 : (i : Int) + (z : Int) ≤ (i : Int) + (z : Int) + (n : Int) := by omega
    have k3 : ((i : Int) + (z : Int)).toNat = i + z := by omega
    have k4 : ((i : Int) + (z : Int) + (n : Int)).toNat = i + z + n := by omega
    have k5 : (0 : Int) ≤ (i : Int) + (z : Int) + (n : Int) := by omega
    clear e hv ha
    go_enter Try.func22, Try.ntmps22
    go_wp2_with fail
    refine (UL.out _).mono ?_
    rintro e w1 ⟨rfl, b1⟩
    have HB := Lib.hid b1
    clear b1
    go_wp2
    go_ret3
    exact ⟨by rw [HV.out]; rfl, HB.out⟩
theorem s_unT (s : ByteArray) (a : Int) (w : World) (hm : s.size ≤ 140737488355328) (ha : (Lit.int .i64 a).wf = true) :
    Calls Try.prog 41 #[.string s, .int .i64 a] w fun e w' => e = .returned (utV (unT s.data.toList a)) ∧ Below w.heap.size w w' := by
  have UL := Lib.hid (fun W => s_decV s a W hm ha)
  rcases dvZ_cases s.data.toList a with e | ⟨i, n, z, rfl, e, h1, h2, h3, h4⟩
  · have HV := Lib.hid (unT_no s.data.toList a e)
    rw [e] at UL
    dsimp only [dvV] at UL
    try simp only [Int.natCast_zero] at UL
    clear e
    go_enter Try.func41, Try.ntmps41
    go_wp2_with fail
    refine (UL.out _).mono ?_
    rintro e w1 ⟨rfl, b1⟩
    have HB := Lib.hid b1
    clear b1
    go_wp2
    go_ret3
    exact ⟨ret_uT (r := ([], 0, false)) HV.out.symm, HB.out⟩
  · rw [list_len] at h4
    by_cases hf : i + z + n ≤ s.size
    · have hv := unT_some s.data.toList i n z e (by rw [list_len]; exact hf)
      rw [e] at UL
      dsimp only [dvV] at UL
      try simp only [Int.natCast_zero] at UL
      have HV : Hid (utV (unT s.data.toList (i : Int)) = .tuple #[.string (s.extract (i + z) (i + z + n)), .int .i64 ((z : Int) + (n : Int)), .bool true]) := Lib.hid (by rw [hv, cut_str]; unfold utV; rw [Int.natCast_add])
      have k0 : (0 : Int) ≤ (i : Int) + (z : Int) := by omega
      have k1 : (i : Int) + (z : Int) + (n : Int) ≤ (s.size : Int) := by omega
      have k2 : (i : Int) + (z : Int) ≤ (i : Int) + (z : Int) + (n : Int) := by omega
      have k3 : ((i : Int) + (z : Int)).toNat = i + z := by omega
      have k4 : ((i : Int) + (z : Int) + (n : Int)).toNat = i + z + n := by omega
      have k5 : (0 : Int) ≤ (i : Int) + (z : Int) + (n : Int) := by omega
      have k6 : ¬ (s.size : Int) - (i : Int) - (z : Int) < (n : Int) := by omega
      clear e hv ha h1 h4 hf
      go_enter Try.func41, Try.ntmps41
      go_wp2_with fail
      refine (UL.out _).mono ?_
      rintro e w1 ⟨rfl, b1⟩
      have HB := Lib.hid b1
      clear b1
      go_wp2
      go_ret3
      exact ⟨by rw [HV.out]; rfl, HB.out⟩
    · have hv := unT_short s.data.toList i n z e (by rw [list_len]; omega)
      have HV := Lib.hid hv
      rw [e] at UL
      dsimp only [dvV] at UL
      try simp only [Int.natCast_zero] at UL
      have k6 : (s.size : Int) - (i : Int) - (z : Int) < (n : Int) := by omega
      clear e hv ha h1 hf
      go_enter Try.func41, Try.ntmps41
      go_wp2_with fail
      refine (UL.out _).mono ?_
      rintro e w1 ⟨rfl, b1⟩
      have HB := Lib.hid b1
      clear b1
      go_wp2
      go_ret3
      exact ⟨ret_uT (r := ([], 0, false)) HV.out.symm, HB.out⟩
end Go.Proofs.Ytfemkbdgbpgjgaa
