/- Plain facts on reading decimal numerals. Nothing of the program. -/
import Derived.Test.YtbdplcbmfcfigaaDoorItoaPlain
import Derived.Lib.Atoi
import Derived.Lib.AtoiErr
import Derived.Lib.AtoiAll
import Derived.Lib.AtoiTie
namespace Go.Proofs.YtbdplcbmfcfigaaDoor
open Go.RowKit Go.Lib

/-- The number up to MaxUint whose numeral l is, and true. -/
def puR (l : List UInt8) : Nat × Bool := match decFrom 0 l with
  | some n => if n ≤ 1000000000 ∧ decDigits n = l then (n, true) else (0, false)
  | none => (0, false)

theorem digit_ok (d : Nat) (h : d < 10) : digitVal (UInt8.ofNat (48 + d)) = some d := by
  have e : (UInt8.ofNat (48 + d)).toNat = 48 + d := by rw [UInt8.toNat_ofNat']; omega
  unfold digitVal
  rw [e, if_pos (by omega)]
  congr 1; omega
theorem decFrom_snoc (l : List UInt8) (b : UInt8) (d n : Nat) (h : decFrom 0 l = some n) (hb : digitVal b = some d) : decFrom 0 (l ++ [b]) = some (n * 10 + d) := by
  have := decFrom_take (l ++ [b]) l.length 0 n b d (by simpa using h) (by simp) hb
  simpa [List.take_of_length_le] using this
theorem dec_digits (n : Nat) : decFrom 0 (decDigits n) = some n := by
  induction n using Nat.strongRecOn with
  | ind n ih =>
    rw [decDigits]
    by_cases h : n < 10
    · rw [dif_pos h]
      unfold decFrom
      rw [digit_ok n h]
      show some (0 * 10 + n) = some n
      congr 1; omega
    · rw [dif_neg h]
      rw [decFrom_snoc _ _ _ _ (ih (n / 10) (by omega)) (digit_ok (n % 10) (by omega))]
      congr 1; omega
theorem digits_len (n : Nat) (h : n ≤ 1000000000) : (decDigits n).length ≤ 10 := by
  by_cases h0 : 0 < n
  · rw [← restD_pos n h0]; exact restD_len 10 n (by omega)
  · have : n = 0 := by omega
    subst this; decide +kernel
theorem digits_head (n : Nat) : ∃ b r, decDigits n = b :: r := by
  rw [decDigits]
  by_cases h : n < 10
  · rw [dif_pos h]; exact ⟨_, [], rfl⟩
  · rw [dif_neg h]
    cases decDigits (n / 10) with
    | nil => exact ⟨_, _, rfl⟩
    | cons b r => exact ⟨_, _, rfl⟩
theorem puR_long (l : List UInt8) (h : 10 < l.length) : puR l = (0, false) := by
  unfold puR
  split
  · split
    · rename_i n _ hn
      have := digits_len n hn.1
      rw [hn.2] at this; omega
    · rfl
  · rfl
theorem puR_none (l : List UInt8) (h : decFrom 0 l = none) : puR l = (0, false) := by unfold puR; rw [h]
theorem puR_some (l : List UInt8) (n : Nat) (h : decFrom 0 l = some n) : puR l = if n ≤ 1000000000 ∧ decDigits n = l then (n, true) else (0, false) := by unfold puR; rw [h]
theorem puR_is (n : Nat) (h : n ≤ 1000000000) : puR (decDigits n) = (n, true) := by rw [puR_some _ n (dec_digits n), if_pos ⟨h, rfl⟩]
theorem puR_bad (s : ByteArray) (k m : Nat) (hk : k < s.size) (_hm : decFrom 0 (s.data.toList.take k) = some m) (hd : digitVal s[k] = none) : puR s.data.toList = (0, false) := by
  refine puR_none _ ?_
  cases hc : decFrom 0 s.data.toList with
  | none => rfl
  | some n =>
    obtain ⟨d, hd'⟩ := digit_of_decFrom _ _ _ hc k s[k] (by rw [List.getElem?_eq_getElem (by simpa using hk)]; rfl)
    rw [hd] at hd'; cases hd'
theorem digit_none (c : UInt8) (h : c.toNat < 48 ∨ 57 < c.toNat) : digitVal c = none := by unfold digitVal; rw [if_neg (by omega)]
theorem digit_some (c : UInt8) (h : 48 ≤ c.toNat) (h' : c.toNat ≤ 57) : digitVal c = some (c.toNat - 48) := by unfold digitVal; rw [if_pos ⟨h, h'⟩]
theorem dec_next (s : ByteArray) (k m : Nat) (hk : k < s.size) (hm : decFrom 0 (s.data.toList.take k) = some m) (h : 48 ≤ s[k].toNat) (h' : s[k].toNat ≤ 57) :
    decFrom 0 (s.data.toList.take (k + 1)) = some (m * 10 + (s[k].toNat - 48)) :=
  decFrom_take _ k 0 m s[k] _ hm (by rw [List.getElem?_eq_getElem (by simpa using hk)]; rfl) (digit_some _ h h')
theorem dec_small {l : List UInt8} {m : Nat} (h : decFrom 0 l = some m) (hl : l.length ≤ 10) : m < 10000000000 := by
  have := decFrom_lt l 0 m h
  have h2 : 10 ^ l.length ≤ 10 ^ 10 := Nat.pow_le_pow_right (by decide) hl
  simp at this
  omega
/-- What Atoi answers at a numeral up to MaxUint. -/
theorem atoi_digits (n : Nat) (h : n ≤ 1000000000) : atoiAll (decDigits n) = .ok (n : Int) := by
  rw [atoiAll_short _ (by have := digits_len n h; omega)]
  obtain ⟨b, r, hb⟩ := digits_head n
  have hd := dec_digits n
  rw [hb] at hd
  obtain ⟨d, hdv⟩ := digit_of_decFrom _ _ _ hd 0 b rfl
  have hb48 : 48 ≤ b.toNat := by
    unfold digitVal at hdv
    split at hdv
    · omega
    · cases hdv
  rw [hb]
  have n45 : (b == 45) = false := by rw [beq_eq_false_iff_ne]; intro e; subst e; exact absurd hb48 (by decide)
  have n43 : (b == 43) = false := by rw [beq_eq_false_iff_ne]; intro e; subst e; exact absurd hb48 (by decide)
  unfold atoi
  simp only [n45, n43, decNat, List.isEmpty_cons, hd]
  rfl
/-- By what Atoi answers. -/
theorem puR_atoi_no (l : List UInt8) (h : ∀ v, atoiAll l ≠ .ok v) : puR l = (0, false) := by
  unfold puR
  split
  · split
    · rename_i n _ hn
      rw [← hn.2] at h
      exact absurd (atoi_digits n hn.1) (h _)
    · rfl
  · rfl
theorem puR_atoi_out (l : List UInt8) (v : Int) (h : atoiAll l = .ok v) (hv : v < 0 ∨ 1000000000 < v) : puR l = (0, false) := by
  unfold puR
  split
  · split
    · rename_i n _ hn
      rw [← hn.2, atoi_digits n hn.1] at h
      injection h with h
      omega
    · rfl
  · rfl
theorem puR_atoi_ne (l : List UInt8) (v : Nat) (h : atoiAll l = .ok (v : Int)) (hv : decDigits v ≠ l) : puR l = (0, false) := by
  unfold puR
  split
  · split
    · rename_i n _ hn
      rw [← hn.2, atoi_digits n hn.1] at h
      injection h with h
      have : n = v := by omega
      subst this
      exact absurd hn.2 hv
    · rfl
  · rfl
theorem ret_pu {l : List UInt8} {a : Int} {n : Nat} {b : Bool} (h : puR l = (n, b)) (ha : a = n) : Ending.returned (.tuple #[.int .i64 a, .bool b]) = .returned (.tuple #[.int .i64 ((puR l).1 : Nat), .bool (puR l).2]) := by rw [h, ha]
theorem itoa_nat (n : Nat) : itoa (n : Int) = decDigits n := by unfold itoa; rw [if_neg (by omega)]; simp
end Go.Proofs.YtbdplcbmfcfigaaDoor
