/- Plain facts on names and tokens. Nothing of the program. -/
import Derived.Test.YtbdplcbmfcfigaaDoorTextPlain
namespace Go.Proofs.YtbdplcbmfcfigaaDoor
open Go.RowKit Go.Lib

def lowB (c : UInt8) : Bool := decide (97 ≤ c.toNat) && decide (c.toNat ≤ 122)
/-- 1 to 8 lower-case letters. -/
def nameB (s : ByteArray) : Bool := decide (1 ≤ s.size) && (decide (s.size ≤ 8) && s.data.toList.all lowB)

theorem lowB_iff (c : UInt8) : lowB c = true ↔ 97 ≤ c.toNat ∧ c.toNat ≤ 122 := by simp [lowB]
theorem low_next (s : ByteArray) (k : Nat) (h : k < s.size) (ha : (s.data.toList.take k).all lowB = true) (h1 : 97 ≤ s[k].toNat) (h2 : s[k].toNat ≤ 122) : (s.data.toList.take (k + 1)).all lowB = true := by
  rw [take_snoc s k h, List.all_append, ha]
  simp [lowB, h1, h2]
theorem nameB_short (s : ByteArray) (h : s.size = 0) : nameB s = false := by simp [nameB, h]
theorem nameB_long (s : ByteArray) (h : 8 < s.size) : nameB s = false := by unfold nameB; rw [decide_eq_false (by omega : ¬ s.size ≤ 8)]; simp
theorem nameB_bad (s : ByteArray) (k : Nat) (h : k < s.size) (hb : s[k].toNat < 97 ∨ 122 < s[k].toNat) : nameB s = false := by
  have : s.data.toList.all lowB = false := by
    rw [List.all_eq_false]
    refine ⟨s[k], ?_, ?_⟩
    · have e : s.data.toList[k]'(by simpa using h) = s[k] := rfl
      exact e ▸ List.getElem_mem _
    · intro e; have := (lowB_iff _).1 e; omega
  simp [nameB, this]
theorem nameB_good (s : ByteArray) (h1 : 1 ≤ s.size) (h2 : s.size ≤ 8) (ha : (s.data.toList.take s.size).all lowB = true) : nameB s = true := by
  rw [take_all] at ha
  simp only [nameB, ha, decide_eq_true h1, decide_eq_true h2, Bool.and_true]
theorem nameB_all (s : ByteArray) (ha : (s.data.toList.take s.size).all lowB = true) : nameB s = (decide (1 ≤ s.size) && decide (s.size ≤ 8)) := by
  rw [take_all] at ha
  simp only [nameB, ha, Bool.and_true]
theorem nameB_size (s : ByteArray) (h : nameB s = true) : 1 ≤ s.size ∧ s.size ≤ 8 ∧ s.data.toList.all lowB = true := by
  simpa [nameB] using h

/-- A token: kind, number, name. -/
structure TokL where
  kind : Int
  num : Int
  name : ByteArray
def tokV (t : TokL) : List Value := [.int .i64 t.kind, .int .i64 t.num, .string t.name]
def tokA (t : TokL) : Value := .agg #[.int .i64 t.kind, .int .i64 t.num, .string t.name]
def noName (s : ByteArray) : Bool := decide (s.size = 0)
def tokB (t : TokL) : Bool :=
  if t.kind = 0 then decide (0 ≤ t.num) && (decide (t.num ≤ 999) && noName t.name)
  else if t.kind = 1 then decide (t.num = 0) && nameB t.name
  else if t.kind = 7 then decide (0 ≤ t.num) && (decide (t.num ≤ 4) && nameB t.name)
  else decide (2 ≤ t.kind) && (decide (t.kind ≤ 6) && (decide (t.num = 0) && noName t.name))
/-- The number of operands; -1 if it is no token. -/
def arZ (t : TokL) : Int := if tokB t = true then (if t.kind = 0 ∨ t.kind = 1 then 0 else if t.kind = 7 then t.num else 2) else -1
theorem tokB_0 (n : Int) (s : ByteArray) : tokB ⟨0, n, s⟩ = (decide (0 ≤ n) && (decide (n ≤ 999) && noName s)) := rfl
theorem tokB_1 (n : Int) (s : ByteArray) : tokB ⟨1, n, s⟩ = (decide (n = 0) && nameB s) := rfl
theorem tokB_7 (n : Int) (s : ByteArray) : tokB ⟨7, n, s⟩ = (decide (0 ≤ n) && (decide (n ≤ 4) && nameB s)) := rfl
theorem tokB_op (k n : Int) (s : ByteArray) (h0 : k ≠ 0) (h1 : k ≠ 1) (h7 : k ≠ 7) : tokB ⟨k, n, s⟩ = (decide (2 ≤ k) && (decide (k ≤ 6) && (decide (n = 0) && noName s))) := by
  unfold tokB; rw [if_neg h0, if_neg h1, if_neg h7]
theorem tokB_out (k n : Int) (s : ByteArray) (h : k < 0 ∨ 7 < k) : tokB ⟨k, n, s⟩ = false := by
  rw [tokB_op k n s (by omega) (by omega) (by omega)]
  rcases h with h | h
  · rw [decide_eq_false (by omega : ¬ 2 ≤ k)]; rfl
  · rw [decide_eq_false (by omega : ¬ k ≤ 6)]; simp
theorem arZ_bad (t : TokL) (h : tokB t = false) : arZ t = -1 := by unfold arZ; rw [h]; rfl
theorem arZ_0 (n : Int) (s : ByteArray) (h : tokB ⟨0, n, s⟩ = true) : arZ ⟨0, n, s⟩ = 0 := by unfold arZ; rw [h]; rfl
theorem arZ_1 (n : Int) (s : ByteArray) (h : tokB ⟨1, n, s⟩ = true) : arZ ⟨1, n, s⟩ = 0 := by unfold arZ; rw [h]; rfl
theorem arZ_7 (n : Int) (s : ByteArray) (h : tokB ⟨7, n, s⟩ = true) : arZ ⟨7, n, s⟩ = n := by unfold arZ; rw [h]; rfl
theorem arZ_op (k n : Int) (s : ByteArray) (h : tokB ⟨k, n, s⟩ = true) (h0 : k ≠ 0) (h1 : k ≠ 1) (h7 : k ≠ 7) : arZ ⟨k, n, s⟩ = 2 := by
  unfold arZ; rw [if_pos h, if_neg (by rintro (e | e); exact h0 e; exact h1 e), if_neg h7]
theorem arZ_bd (t : TokL) : -1 ≤ arZ t ∧ arZ t ≤ 4 := by
  obtain ⟨k, n, s⟩ := t
  cases h : tokB ⟨k, n, s⟩
  · rw [arZ_bad _ h]; omega
  · by_cases h0 : k = 0
    · subst h0; rw [arZ_0 _ _ h]; omega
    by_cases h1 : k = 1
    · subst h1; rw [arZ_1 _ _ h]; omega
    by_cases h7 : k = 7
    · subst h7; rw [arZ_7 _ _ h]; rw [tokB_7] at h; simp at h; omega
    · rw [arZ_op _ _ _ h h0 h1 h7]; omega
theorem arZ_pos (t : TokL) (h : tokB t = true) : 0 ≤ arZ t := by
  obtain ⟨k, n, s⟩ := t
  by_cases h0 : k = 0
  · subst h0; rw [arZ_0 _ _ h]; omega
  by_cases h1 : k = 1
  · subst h1; rw [arZ_1 _ _ h]; omega
  by_cases h7 : k = 7
  · subst h7; rw [arZ_7 _ _ h]; rw [tokB_7] at h; simp at h; omega
  · rw [arZ_op _ _ _ h h0 h1 h7]; omega
theorem noName_of (s : ByteArray) (h : s.size = 0) : noName s = true := by simp [noName, h]
theorem noName_not (s : ByteArray) (h : s.size ≠ 0) : noName s = false := by simp [noName, h]
/-- The walk's two spellings of the test against the empty string. -/
theorem empty_yes (s : ByteArray) (h : s.size = 0) : s = ⟨#[]⟩ := bl_eq (List.length_eq_zero_iff.1 (by rw [list_len]; exact h))
theorem empty_no (s : ByteArray) (h : s.size ≠ 0) : s.toList.isEmpty = false := by
  rw [ByteArray.toList_eq]
  cases hc : s.data.toList with
  | nil => exact absurd (by rw [← list_len, hc]; rfl) h
  | cons a b => rfl
theorem ret_b {a b : Bool} (h : a = b) : Ending.returned (.bool a) = .returned (.bool b) := by rw [h]
end Go.Proofs.YtbdplcbmfcfigaaDoor
