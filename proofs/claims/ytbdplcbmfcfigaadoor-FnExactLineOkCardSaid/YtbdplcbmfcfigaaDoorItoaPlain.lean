/- Plain facts on decimal numerals. Nothing of the program. -/
import Derived.Test.YtbdplcbmfcfigaaDoorTextPlain
import Derived.Lib.ItoaNum
namespace Go.Proofs.YtbdplcbmfcfigaaDoor
open Go.RowKit Go.Lib

/-- The digits that are still to be written: none of 0. -/
def restD (m : Nat) : List UInt8 := if m = 0 then [] else decDigits m
theorem figB_dec (n : Nat) (h : n < 10) : figB n = UInt8.ofNat (48 + n) := by unfold figB figN; rw [if_pos h]
theorem restD_step (m : Nat) (h : 0 < m) : restD m = restD (m / 10) ++ [figB (m % 10)] := by
  unfold restD
  rw [if_neg (by omega), figB_dec _ (by omega), decDigits]
  by_cases h1 : m < 10
  · rw [dif_pos h1, if_pos (by omega)]; simp; congr 1; omega
  · rw [dif_neg h1, if_neg (by omega)]
theorem restD_pos (m : Nat) (h : 0 < m) : restD m = decDigits m := by unfold restD; rw [if_neg (by omega)]
theorem restD_len (k : Nat) : ∀ m : Nat, m < 10 ^ k → (restD m).length ≤ k := by
  induction k with
  | zero => intro m h; have : m = 0 := by simpa using h
            subst this; simp [restD]
  | succ k ih =>
    intro m h
    by_cases h0 : 0 < m
    · rw [restD_step m h0]
      have := ih (m / 10) (by rw [Nat.pow_succ] at h; omega)
      simp; omega
    · have : m = 0 := by omega
      subst this; simp [restD]
theorem rest_size {m n : Nat} {t : ByteArray} (h : restD m ++ t.data.toList = restD n) (hn : n ≤ 9223372036854775808) : t.size ≤ 19 := by
  have h1 := restD_len 19 n (by omega)
  rw [← h, List.length_append, list_len] at h1
  omega
theorem rest_next {m n : Nat} {t : ByteArray} (h : restD m ++ t.data.toList = restD n) (h0 : 0 < m) : restD (m / 10) ++ ((⟨#[figB (m % 10)]⟩ : ByteArray) ++ t).data.toList = restD n := by
  rw [← h, restD_step m h0]
  simp [ByteArray.data_append]
theorem neg_tmod (m : Nat) : (-(m : Int)).tmod 10 = -((m % 10 : Nat) : Int) := by rw [Int.neg_tmod]; rfl
theorem neg_tdiv (m : Nat) : (-(m : Int)).tdiv 10 = -((m / 10 : Nat) : Int) := by rw [Int.neg_tdiv]; rfl
theorem ret_str {a b : ByteArray} (h : a.data.toList = b.data.toList) : Ending.returned (.string a) = .returned (.string b) := by
  have : a = b := ByteArray.ext (Array.toList_inj.1 h)
  rw [this]
end Go.Proofs.YtbdplcbmfcfigaaDoor
