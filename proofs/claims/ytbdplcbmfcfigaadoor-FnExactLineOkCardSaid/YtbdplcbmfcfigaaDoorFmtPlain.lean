/- Plain facts on the texts of tokens. Nothing of the program. -/
import Derived.Test.YtbdplcbmfcfigaaDoorTokPlain
import Derived.Test.YtbdplcbmfcfigaaDoorPuPlain
namespace Go.Proofs.YtbdplcbmfcfigaaDoor
open Go.RowKit Go.Lib

/-- The operator's byte. -/
def opB (k : Int) : UInt8 := if k = 2 then 43 else if k = 3 then 45 else if k = 4 then 42 else if k = 5 then 60 else 61
/-- A number's numeral. -/
def numT (n : Int) : ByteArray := ⟨(itoa n).toArray⟩
/-- A token's text. -/
def fmtT (t : TokL) : ByteArray :=
  if tokB t = true then (if t.kind = 0 then numT t.num else if t.kind = 1 then t.name else if t.kind = 7 then t.name ++ ⟨#[47]⟩ ++ numT t.num else ⟨#[opB t.kind]⟩) else ⟨#[]⟩
theorem fmtT_bad (t : TokL) (h : tokB t = false) : fmtT t = ⟨#[]⟩ := by unfold fmtT; rw [h]; rfl
theorem fmtT_0 (n : Int) (s : ByteArray) (h : tokB ⟨0, n, s⟩ = true) : fmtT ⟨0, n, s⟩ = numT n := by unfold fmtT; rw [h]; rfl
theorem fmtT_1 (n : Int) (s : ByteArray) (h : tokB ⟨1, n, s⟩ = true) : fmtT ⟨1, n, s⟩ = s := by unfold fmtT; rw [h]; rfl
theorem fmtT_7 (n : Int) (s : ByteArray) (h : tokB ⟨7, n, s⟩ = true) : fmtT ⟨7, n, s⟩ = s ++ ⟨#[47]⟩ ++ numT n := by unfold fmtT; rw [h]; rfl
theorem fmtT_op (k n : Int) (s : ByteArray) (h : tokB ⟨k, n, s⟩ = true) (h0 : k ≠ 0) (h1 : k ≠ 1) (h7 : k ≠ 7) : fmtT ⟨k, n, s⟩ = ⟨#[opB k]⟩ := by
  unfold fmtT; rw [if_pos h, if_neg h0, if_neg h1, if_neg h7]
theorem tok_0 (n : Int) (s : ByteArray) (h : tokB ⟨0, n, s⟩ = true) : 0 ≤ n ∧ n ≤ 999 ∧ s.size = 0 := by rw [tokB_0] at h; simpa [noName] using h
theorem tok_1 (n : Int) (s : ByteArray) (h : tokB ⟨1, n, s⟩ = true) : n = 0 ∧ nameB s = true := by rw [tokB_1] at h; simpa using h
theorem tok_7 (n : Int) (s : ByteArray) (h : tokB ⟨7, n, s⟩ = true) : 0 ≤ n ∧ n ≤ 4 ∧ nameB s = true := by rw [tokB_7] at h; simpa using h
theorem tok_op (k n : Int) (s : ByteArray) (h : tokB ⟨k, n, s⟩ = true) (h0 : k ≠ 0) (h1 : k ≠ 1) (h7 : k ≠ 7) : 2 ≤ k ∧ k ≤ 6 ∧ n = 0 ∧ s.size = 0 := by rw [tokB_op k n s h0 h1 h7] at h; simpa [noName] using h
theorem numT_size (n : Int) (h0 : 0 ≤ n) (h1 : n ≤ 1000000000) : (numT n).size ≤ 10 := by
  obtain ⟨m, rfl⟩ := Int.eq_ofNat_of_zero_le h0
  have := digits_len m (by omega)
  unfold numT
  rw [itoa_nat, ← list_len]
  exact this
theorem fmtT_size (t : TokL) : (fmtT t).size ≤ 19 := by
  obtain ⟨k, n, s⟩ := t
  cases h : tokB ⟨k, n, s⟩
  · rw [fmtT_bad _ h]; show 0 ≤ 19; omega
  · by_cases h0 : k = 0
    · subst h0; rw [fmtT_0 _ _ h]; have := tok_0 _ _ h; have := numT_size n (by omega) (by omega); omega
    by_cases h1 : k = 1
    · subst h1; rw [fmtT_1 _ _ h]; have := nameB_size _ (tok_1 _ _ h).2; omega
    by_cases h7 : k = 7
    · subst h7; rw [fmtT_7 _ _ h]
      have h := tok_7 _ _ h
      have := numT_size n (by omega) (by omega); have := nameB_size _ h.2.2
      simp only [ByteArray.size_append]
      have e : (⟨#[47]⟩ : ByteArray).size = 1 := rfl
      omega
    · rw [fmtT_op _ _ _ h h0 h1 h7]
      show 1 ≤ 19
      omega
theorem ret_s {a b : ByteArray} (h : a = b) : Ending.returned (.string a) = .returned (.string b) := by rw [h]
end Go.Proofs.YtbdplcbmfcfigaaDoor
