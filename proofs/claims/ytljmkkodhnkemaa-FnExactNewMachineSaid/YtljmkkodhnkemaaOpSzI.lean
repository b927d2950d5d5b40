/- The program's sizeAt: how many bytes the instruction at an index has. -/
import Derived.Test.YtljmkkodhnkemaaOpDecP
import Derived.Test.YtljmkkodhnkemaaOpSpec
import Derived.Deep.WholeRow
import Derived.Deep.Cut
import Derived.ChangeKeysEq
import Derived.Test.YtljmkkodhnkemaaOpImplA
namespace Go.Proofs.Ytljmkkodhnkemaa
open Go.RowKit Go.Lib

/-- How many bytes the instruction has that begins at an index: 0 if there is none. -/
def stepN : Option (OpL × Nat) → Nat
  | none => 0
  | some y => y.2
theorem i_stp_out (s : ByteArray) (a : Int) (w : World) (hm : s.size ≤ maxLen) (h : a < 0 ∨ (s.size : Int) ≤ a) :
    Calls Try.prog 57 #[.string s, .int .i64 a] w fun e w' => e = .returned (.int .i64 0) ∧ Below w.heap.size w w' := by
  unfold maxLen at hm
  by_cases h1 : a < 0
  · clear h
    go_enter Try.func57, Try.ntmps57
    go_wp2
    go_ret
    exact ⟨rfl, Below.refl _ _⟩
  · have h2 : (s.size : Int) ≤ a := by omega
    clear h
    go_enter Try.func57, Try.ntmps57
    go_wp2
    go_ret
    exact ⟨rfl, Below.refl _ _⟩
set_option maxRecDepth 100000 in
set_option maxHeartbeats 1000000 in
theorem i_stp_in (s : ByteArray) (i : Nat) (w : World) (hm : s.size ≤ 4294967296) (h : i < s.size) :
    Calls Try.prog 57 #[.string s, .int .i64 (i : Int)] w fun e w' => e = .returned (.int .i64 (stepN (decZ s.data.toList (i : Int)) : Nat)) ∧ Below w.heap.size w w' := by
  have hl : i < s.data.toList.length := by rw [list_len]; exact h
  have HR := Lib.hid (decZ_in s.data.toList i hl)
  have hg : s.data.toList[i] = s[i]'h := rfl
  rw [hg] at HR
  have SI := Lib.hid (fun W => i_size ((s[i]'h).toNat : Int) W)
  have hb := (s[i]'h).toNat_lt
  have hwc : wrap64 ((s[i]'h).toNat : Int) = ((s[i]'h).toNat : Int) := by unfold wrap64; omega
  obtain ⟨c, hc⟩ : ∃ c : Int, ((s[i]'h).toNat : Int) = c := ⟨_, rfl⟩
  rw [hc] at HR SI
  have hc0 : 0 ≤ c := by omega
  have hc1 : c < 256 := by omega
  have HC := Lib.hid hc
  have hw4 := widN_le c
  have HSZ := Lib.hid (sizZ_zero c hc0)
  have HSC := Lib.hid (sizZ_code c hc0)
  have hi1 : (i : Int) < (s.size : Int) := by omega
  have hi0 : (0 : Int) ≤ (i : Int) := by omega
  have hmi : (s.size : Int) ≤ 4294967296 := by omega
  obtain ⟨n, hn, HN⟩ : ∃ n : Nat, sizZ c = (n : Int) ∧ Hid (stepN (decZ s.data.toList (i : Int)) = if (s.size : Int) - (i : Int) < (n : Int) then 0 else n) := by
    by_cases h17 : 17 < c
    · refine ⟨0, HSZ.out.2 h17, Lib.hid ?_⟩
      rw [HR.out, if_neg (fun hh => by omega), if_neg (by omega)]
      rfl
    · refine ⟨1 + widN c, by rw [HSC.out (by omega)]; omega, Lib.hid ?_⟩
      rw [HR.out]
      by_cases hf : (s.size : Int) - (i : Int) < ((1 + widN c : Nat) : Int)
      · rw [if_neg (fun hh => by have h2 := hh.2; rw [List.length_drop, list_len] at h2; omega), if_pos hf]
        rfl
      · rw [if_pos ⟨by omega, by rw [List.length_drop, list_len]; omega⟩, if_neg hf]
        rfl
  rw [hn] at SI
  have hn5 : n ≤ 5 := by
    by_cases h17 : 17 < c
    · have := HSZ.out.2 h17; omega
    · have := HSC.out (by omega); omega
  clear hc hb hg hl HSZ HSC HR hn hw4
  by_cases hfar : (s.size : Int) - (i : Int) < (n : Int)
  · rw [if_pos hfar] at HN
    go_enter Try.func57, Try.ntmps57
    go_wp2_with fail
    rw [HC.out]
    clear hwc
    refine (SI.out _).mono ?_
    rintro e w1 ⟨rfl, b1⟩
    have HB1 := Lib.hid b1
    clear b1
    go_wp2
    go_ret
    exact ⟨by rw [HN.out]; rfl, HB1.out⟩
  · rw [if_neg hfar] at HN
    go_enter Try.func57, Try.ntmps57
    go_wp2_with fail
    rw [HC.out]
    clear hwc
    refine (SI.out _).mono ?_
    rintro e w1 ⟨rfl, b1⟩
    have HB1 := Lib.hid b1
    clear b1
    go_wp2
    go_ret
    exact ⟨by rw [HN.out]; rfl, HB1.out⟩
theorem i_stp (s : ByteArray) (a : Int) (w : World) (hm : s.size ≤ 4294967296) :
    Calls Try.prog 57 #[.string s, .int .i64 a] w fun e w' => e = .returned (.int .i64 (stepN (decZ s.data.toList a) : Nat)) ∧ Below w.heap.size w w' := by
  by_cases h : a < 0 ∨ (s.size : Int) ≤ a
  · have hz : decZ s.data.toList a = none := by
      rcases h with h | h
      · exact decZ_neg _ _ h
      · exact decZ_far _ _ (by rw [list_len]; exact h)
    rw [hz]
    exact i_stp_out s a w (by unfold maxLen; omega) h
  · obtain ⟨i, rfl⟩ := Int.eq_ofNat_of_zero_le (show 0 ≤ a by omega)
    exact i_stp_in s i w hm (by omega)
end Go.Proofs.Ytljmkkodhnkemaa
