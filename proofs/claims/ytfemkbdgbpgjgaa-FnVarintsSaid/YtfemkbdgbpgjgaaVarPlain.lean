/- Plain facts on numbers of variable length: their bytes, and what is found at the beginning of bytes. -/
import Derived.Test.YtfemkbdgbpgjgaaPlainA
namespace Go.Proofs.Ytfemkbdgbpgjgaa
open Go.RowKit Go.Lib

/-- The bytes of a number. -/
def vl (n : Nat) : List UInt8 := if h : n < 128 then [UInt8.ofNat n] else UInt8.ofNat (n % 128 + 128) :: vl (n / 128)
termination_by n
decreasing_by omega

theorem vl_small (n : Nat) (h : n < 128) : vl n = [UInt8.ofNat n] := by rw [vl, dif_pos h]
theorem vl_big (n : Nat) (h : ¬ n < 128) : vl n = UInt8.ofNat (n % 128 + 128) :: vl (n / 128) := by rw [vl, dif_neg h]
theorem vl_pos (n : Nat) : 1 ≤ (vl n).length := by
  by_cases h : n < 128
  · rw [vl_small n h]; simp
  · rw [vl_big n h]; simp
theorem vl_len : ∀ (k n : Nat), n < 128 ^ (k + 1) → (vl n).length ≤ k + 1 := by
  intro k
  induction k with
  | zero => intro n h; rw [vl_small n (by simpa using h)]; simp
  | succ k ih =>
    intro n h
    by_cases h1 : n < 128
    · rw [vl_small n h1]; simp
    · rw [vl_big n h1]
      have := ih (n / 128) (by rw [Nat.pow_succ] at h; omega)
      simp only [List.length_cons]
      omega
theorem vl_len6 (n : Nat) (h : n ≤ 1099511627775) : (vl n).length ≤ 6 := vl_len 5 n (by omega)
theorem byte7 (n : Nat) (h : n < 256) : (UInt8.ofNat n).toNat = n := by simp [UInt8.toNat_ofNat']; omega
/-- The number of bits, 7 a byte. -/
def valV : List UInt8 → Nat
  | [] => 0
  | b :: l => b.toNat % 128 + 128 * valV l
theorem valV_vl : ∀ n : Nat, valV (vl n) = n := by
  intro n
  induction n using Nat.strongRecOn with
  | _ n ih =>
    by_cases h : n < 128
    · rw [vl_small n h]
      show (UInt8.ofNat n).toNat % 128 + 128 * 0 = n
      rw [byte7 n (by omega)]
      omega
    · rw [vl_big n h]
      show (UInt8.ofNat (n % 128 + 128)).toNat % 128 + 128 * valV (vl (n / 128)) = n
      rw [byte7 _ (by omega), ih (n / 128) (by omega)]
      omega
theorem valV_lt (l : List UInt8) : valV l < 128 ^ l.length := by
  induction l with
  | nil => simp [valV]
  | cons b l ih =>
    show b.toNat % 128 + 128 * valV l < 128 ^ (l.length + 1)
    rw [Nat.pow_succ]
    omega
theorem valV_snoc (l : List UInt8) (b : UInt8) : valV (l ++ [b]) = valV l + b.toNat % 128 * 128 ^ l.length := by
  induction l with
  | nil => simp [valV]
  | cons c l ih =>
    show c.toNat % 128 + 128 * valV (l ++ [b]) = c.toNat % 128 + 128 * valV l + b.toNat % 128 * 128 ^ (l.length + 1)
    rw [ih, Nat.pow_succ, Nat.mul_add]
    have : 128 * (b.toNat % 128 * 128 ^ l.length) = b.toNat % 128 * (128 ^ l.length * 128) := by
      rw [Nat.mul_comm 128, Nat.mul_assoc]
    omega
theorem valV_take (l : List UInt8) (k : Nat) (h : k < l.length) : valV (l.take (k + 1)) = valV (l.take k) + l[k].toNat % 128 * 128 ^ k := by
  rw [List.take_succ_eq_append_getElem h, valV_snoc, List.length_take, show min k l.length = k from by omega]

/-- The number of bytes up to the first one below 128, at most k of them; 0 if there is none. -/
def szV : Nat → List UInt8 → Nat
  | 0, _ => 0
  | _ + 1, [] => 0
  | k + 1, b :: l => if b.toNat < 128 then 1 else if szV k l = 0 then 0 else szV k l + 1
theorem szV_le : ∀ (k : Nat) (l : List UInt8), szV k l ≤ k ∧ szV k l ≤ l.length := by
  intro k
  induction k with
  | zero => intro l; simp [szV]
  | succ k ih =>
    intro l
    cases l with
    | nil => simp [szV]
    | cons b l =>
      have := ih l
      unfold szV
      simp only [List.length_cons]
      split
      · omega
      · split <;> omega
theorem szV_hit : ∀ (p k : Nat) (l : List UInt8), p < k → (h : p < l.length) → (∀ j, (hj : j < l.length) → j < p → 128 ≤ l[j].toNat) → l[p].toNat < 128 → szV k l = p + 1 := by
  intro p
  induction p with
  | zero =>
    intro k l hk h _ hb
    cases l with
    | nil => simp at h
    | cons b l =>
      cases k with
      | zero => omega
      | succ k =>
        unfold szV
        rw [if_pos (by simpa using hb)]
  | succ p ih =>
    intro k l hk h hall hb
    cases l with
    | nil => simp at h
    | cons b l =>
      cases k with
      | zero => omega
      | succ k =>
        have h0 := hall 0 (by simp) (by omega)
        have e := ih k l (by omega) (by simpa using h) (fun j hj hp => by have := hall (j + 1) (by simpa using hj) (by omega); simpa using this) (by simpa using hb)
        unfold szV
        rw [if_neg (by simp at h0; omega), e, if_neg (by omega)]
theorem szV_none : ∀ (k : Nat) (l : List UInt8), (∀ j, (hj : j < l.length) → j < k → 128 ≤ l[j].toNat) → szV k l = 0 := by
  intro k
  induction k with
  | zero => intro l _; cases l <;> rfl
  | succ k ih =>
    intro l hall
    cases l with
    | nil => rfl
    | cons b l =>
      have h0 := hall 0 (by simp) (by omega)
      have e := ih l (fun j hj hp => by have := hall (j + 1) (by simpa using hj) (by omega); simpa using this)
      unfold szV
      rw [if_neg (by simp at h0; omega), e, if_pos rfl]
/-- A number's last byte is not 0, but that of 0. -/
theorem vl_last : ∀ n : Nat, 0 < n → (vl n).getLast? ≠ some 0 := by
  intro n
  induction n using Nat.strongRecOn with
  | _ n ih =>
    intro hn
    by_cases h : n < 128
    · rw [vl_small n h]
      intro e
      have e1 : UInt8.ofNat n = 0 := by simpa using e
      have := congrArg UInt8.toNat e1
      rw [byte7 n (by omega)] at this
      simp at this
      omega
    · rw [vl_big n h]
      have h1 := vl_pos (n / 128)
      have h2 := ih (n / 128) (by omega) (by omega)
      cases hc : vl (n / 128) with
      | nil => rw [hc] at h1; simp at h1
      | cons c l =>
        rw [hc] at h2
        rw [List.getLast?_cons_cons]
        exact h2
/-- The bytes up to the first one below 128 are those of their number, unless the last one of several is 0. -/
theorem val_pos : ∀ (k : Nat) (l : List UInt8), 0 < szV k l → (l.take (szV k l)).getLast? ≠ some 0 → 0 < valV (l.take (szV k l)) := by
  intro k
  induction k with
  | zero => intro l h; simp [szV] at h
  | succ k ih =>
    intro l h hl
    cases l with
    | nil => simp [szV] at h
    | cons b l =>
      unfold szV at h hl ⊢
      by_cases hb : b.toNat < 128
      · rw [if_pos hb] at hl ⊢
        show 0 < b.toNat % 128 + 128 * valV (l.take 0)
        have : b.toNat ≠ 0 := fun e => hl (by
          have : b = 0 := UInt8.toNat_inj.1 e
          rw [this]; rfl)
        omega
      · rw [if_neg hb] at h hl ⊢
        by_cases hz : szV k l = 0
        · rw [if_pos hz] at h; omega
        · rw [if_neg hz] at hl ⊢
          show 0 < b.toNat % 128 + 128 * valV (l.take (szV k l))
          rw [List.take_succ_cons] at hl
          have h3 : (l.take (szV k l)).getLast? ≠ some 0 := by
            intro e
            apply hl
            have hlen := (szV_le k l).2
            cases hc : l.take (szV k l) with
            | nil => have := congrArg List.length hc; rw [List.length_take, List.length_nil] at this; omega
            | cons c r => rw [hc] at e; rw [List.getLast?_cons_cons]; exact e
          have := ih l (by omega) h3
          omega
theorem vl_val : ∀ (k : Nat) (l : List UInt8), 0 < szV k l → (1 < szV k l → (l.take (szV k l)).getLast? ≠ some 0) → vl (valV (l.take (szV k l))) = l.take (szV k l) := by
  intro k
  induction k with
  | zero => intro l h; simp [szV] at h
  | succ k ih =>
    intro l h hl
    cases l with
    | nil => simp [szV] at h
    | cons b l =>
      unfold szV at h hl ⊢
      by_cases hb : b.toNat < 128
      · rw [if_pos hb]
        show vl (b.toNat % 128 + 128 * valV (l.take 0)) = b :: l.take 0
        rw [List.take_zero]
        have e : b.toNat % 128 + 128 * valV [] = b.toNat := by show b.toNat % 128 + 128 * 0 = _; omega
        rw [e, vl_small _ hb]
        simp
      · rw [if_neg hb] at h hl ⊢
        by_cases hz : szV k l = 0
        · rw [if_pos hz] at h; omega
        · rw [if_neg hz] at hl ⊢
          show vl (b.toNat % 128 + 128 * valV (l.take (szV k l))) = b :: l.take (szV k l)
          rw [List.take_succ_cons] at hl
          have h3 : (l.take (szV k l)).getLast? ≠ some 0 := by
            intro e
            apply hl (by omega)
            have hlen := (szV_le k l).2
            cases hc : l.take (szV k l) with
            | nil => have := congrArg List.length hc; rw [List.length_take, List.length_nil] at this; omega
            | cons c r => rw [hc] at e; rw [List.getLast?_cons_cons]; exact e
          have hp := val_pos k l (by omega) h3
          have hv := ih l (by omega) (fun _ => h3)
          have hbl := b.toNat_lt
          rw [vl_big _ (by omega)]
          have e1 : (b.toNat % 128 + 128 * valV (l.take (szV k l))) % 128 + 128 = b.toNat := by omega
          have e2 : (b.toNat % 128 + 128 * valV (l.take (szV k l))) / 128 = valV (l.take (szV k l)) := by omega
          rw [e1, e2, hv]
          simp
/-- The bytes of a number are found again, whatever follows. -/
theorem szV_vl : ∀ (k n : Nat) (r : List UInt8), n < 128 ^ (k + 1) → szV (k + 1) (vl n ++ r) = (vl n).length := by
  intro k
  induction k with
  | zero =>
    intro n r h
    have h1 : n < 128 := by simpa using h
    rw [vl_small n h1]
    show (if (UInt8.ofNat n).toNat < 128 then 1 else _) = 1
    rw [byte7 n (by omega), if_pos h1]
  | succ k ih =>
    intro n r h
    by_cases h1 : n < 128
    · rw [vl_small n h1]
      show (if (UInt8.ofNat n).toNat < 128 then 1 else _) = 1
      rw [byte7 n (by omega), if_pos h1]
    · rw [vl_big n h1]
      have e := ih (n / 128) r (by rw [Nat.pow_succ] at h; omega)
      have p := vl_pos (n / 128)
      show (if (UInt8.ofNat (n % 128 + 128)).toNat < 128 then 1 else if szV (k + 1) (vl (n / 128) ++ r) = 0 then 0 else szV (k + 1) (vl (n / 128) ++ r) + 1) = (vl (n / 128)).length + 1
      rw [byte7 _ (by omega), if_neg (by omega), e, if_neg (by omega)]

/-- What is found at the beginning of bytes: a number, the number of its bytes, and whether there is one. -/
def dcV (l : List UInt8) : Nat × Nat × Bool :=
  if szV 6 l = 0 ∨ (1 < szV 6 l ∧ (l.take (szV 6 l)).getLast? = some 0) ∨ 1099511627775 < valV (l.take (szV 6 l)) then (0, 0, false)
  else (valV (l.take (szV 6 l)), szV 6 l, true)
theorem dcV_none (l : List UInt8) (h : szV 6 l = 0) : dcV l = (0, 0, false) := by unfold dcV; rw [if_pos (.inl h)]
theorem dcV_zero (l : List UInt8) (h : 1 < szV 6 l) (h0 : (l.take (szV 6 l)).getLast? = some 0) : dcV l = (0, 0, false) := by unfold dcV; rw [if_pos (.inr (.inl ⟨h, h0⟩))]
theorem dcV_far (l : List UInt8) (h : 1099511627775 < valV (l.take (szV 6 l))) : dcV l = (0, 0, false) := by unfold dcV; rw [if_pos (.inr (.inr h))]
theorem dcV_ok (l : List UInt8) (h : szV 6 l ≠ 0) (h0 : 1 < szV 6 l → (l.take (szV 6 l)).getLast? ≠ some 0) (hv : valV (l.take (szV 6 l)) ≤ 1099511627775) : dcV l = (valV (l.take (szV 6 l)), szV 6 l, true) := by
  unfold dcV
  rw [if_neg]
  rintro (a | ⟨a, b⟩ | a)
  · exact h a
  · exact h0 a b
  · omega
/-- The same, by the number's own bytes. -/
theorem dcV_self (l : List UInt8) (h : szV 6 l ≠ 0) : (vl (valV (l.take (szV 6 l))) = l.take (szV 6 l) ∧ valV (l.take (szV 6 l)) ≤ 1099511627775 → dcV l = (valV (l.take (szV 6 l)), szV 6 l, true)) ∧
    (¬ (vl (valV (l.take (szV 6 l))) = l.take (szV 6 l) ∧ valV (l.take (szV 6 l)) ≤ 1099511627775) → dcV l = (0, 0, false)) := by
  have hlen := (szV_le 6 l).2
  constructor
  · rintro ⟨e, hv⟩
    refine dcV_ok l h (fun h1 h2 => ?_) hv
    have hn : 0 < valV (l.take (szV 6 l)) := by
      rcases Nat.eq_zero_or_pos (valV (l.take (szV 6 l))) with h0 | h0
      · rw [h0, vl_small 0 (by omega)] at e
        have := congrArg List.length e
        rw [List.length_take] at this
        simp at this
        omega
      · exact h0
    have := vl_last _ hn
    rw [e] at this
    exact this h2
  · intro hn
    by_cases hv : valV (l.take (szV 6 l)) ≤ 1099511627775
    · by_cases h1 : 1 < szV 6 l ∧ (l.take (szV 6 l)).getLast? = some 0
      · exact dcV_zero l h1.1 h1.2
      · exact absurd ⟨vl_val 6 l (by omega) (fun a b => h1 ⟨a, b⟩), hv⟩ hn
    · exact dcV_far l (by omega)
theorem dcV_vl (n : Nat) (r : List UInt8) (h : n ≤ 1099511627775) : dcV (vl n ++ r) = (n, (vl n).length, true) := by
  have e : szV 6 (vl n ++ r) = (vl n).length := szV_vl 5 n r (by omega)
  have t : (vl n ++ r).take (szV 6 (vl n ++ r)) = vl n := by rw [e, List.take_left]
  have p := vl_pos n
  have := (dcV_self (vl n ++ r) (by omega)).1 (by rw [t, valV_vl]; exact ⟨rfl, h⟩)
  rw [this, t, valV_vl, e]
theorem dcV_cases (l : List UInt8) : dcV l = (0, 0, false) ∨ ∃ n z, dcV l = (n, z, true) ∧ n ≤ 1099511627775 ∧ 1 ≤ z ∧ z ≤ 6 ∧ z ≤ l.length ∧ l.take z = vl n := by
  by_cases h : szV 6 l = 0
  · exact .inl (dcV_none l h)
  · have hl := szV_le 6 l
    by_cases h2 : vl (valV (l.take (szV 6 l))) = l.take (szV 6 l) ∧ valV (l.take (szV 6 l)) ≤ 1099511627775
    · exact .inr ⟨_, _, (dcV_self l h).1 h2, h2.2, by omega, hl.1, hl.2, h2.1.symm⟩
    · exact .inl ((dcV_self l h).2 h2)
theorem dcV_le (l : List UInt8) : (dcV l).1 ≤ 1099511627775 ∧ (dcV l).2.1 ≤ 6 ∧ (dcV l).2.1 ≤ l.length := by
  rcases dcV_cases l with h | ⟨n, z, h, a, b, c, d, _⟩
  · rw [h]; simp
  · rw [h]; exact ⟨a, c, d⟩
/-- The bytes of any number; none out of range. -/
def encV (a : Int) : List UInt8 := if 0 ≤ a ∧ a ≤ 1099511627775 then vl a.toNat else []
theorem encV_in (n : Nat) (h : n ≤ 1099511627775) : encV (n : Int) = vl n := by unfold encV; rw [if_pos (by omega)]; rfl
theorem encV_out (a : Int) (h : a < 0 ∨ 1099511627775 < a) : encV a = [] := by unfold encV; rw [if_neg (by omega)]
theorem encV_len (a : Int) : (encV a).length ≤ 6 := by
  unfold encV
  split
  · exact vl_len6 _ (by omega)
  · simp
/-- What DecodeVarint finds. -/
def dvZ (l : List UInt8) (a : Int) : Nat × Nat × Bool := if a < 0 then (0, 0, false) else dcV (l.drop a.toNat)
theorem dvZ_neg (l : List UInt8) (a : Int) (h : a < 0) : dvZ l a = (0, 0, false) := by unfold dvZ; rw [if_pos h]
theorem dvZ_nat (l : List UInt8) (i : Nat) : dvZ l (i : Int) = dcV (l.drop i) := by unfold dvZ; rw [if_neg (by omega)]; rfl
theorem dvZ_far (l : List UInt8) (a : Int) (h : (l.length : Int) ≤ a) : dvZ l a = (0, 0, false) := by
  unfold dvZ
  split
  · rfl
  · rw [List.drop_eq_nil_of_le (by omega)]
    exact dcV_none _ rfl
def dvV (r : Nat × Nat × Bool) : Value := .tuple #[.int .i64 (r.1 : Int), .int .i64 (r.2.1 : Int), .bool r.2.2]
/-- Signless, and back. -/
def sglZ (a : Int) : Int := if a < -549755813888 ∨ 549755813887 < a then -1 else if 0 ≤ a then 2 * a else -2 * a - 1
def sgdZ (a : Int) : Int := if a < 0 ∨ 1099511627775 < a then 0 else if a % 2 = 1 then -((a + 1) / 2) else a / 2
theorem sgl_sgd (a : Int) (h : -549755813888 ≤ a) (h2 : a ≤ 549755813887) : sgdZ (sglZ a) = a := by
  by_cases h0 : 0 ≤ a
  · have e : sglZ a = 2 * a := by unfold sglZ; rw [if_neg (by omega), if_pos h0]
    rw [e]
    unfold sgdZ
    rw [if_neg (by omega), if_neg (by omega)]
    omega
  · have e : sglZ a = -2 * a - 1 := by unfold sglZ; rw [if_neg (by omega), if_neg h0]
    rw [e]
    unfold sgdZ
    rw [if_neg (by omega), if_pos (by omega)]
    omega
theorem sgl_in (a : Int) (h : 0 ≤ sglZ a) : -549755813888 ≤ a ∧ a ≤ 549755813887 ∧ sglZ a ≤ 1099511627775 := by
  unfold sglZ at h ⊢
  split at h
  · omega
  · split <;> omega
theorem sgl_bd (a : Int) : -1 ≤ sglZ a ∧ sglZ a ≤ 1099511627775 := by
  unfold sglZ
  split
  · omega
  · split <;> omega
theorem sgd_bd (a : Int) : -549755813888 ≤ sgdZ a ∧ sgdZ a ≤ 549755813887 := by
  unfold sgdZ
  split
  · omega
  · split <;> omega

/-! Joining 7 bits by 'or', and a shift. -/
theorem toNat_small (v : Nat) (h : v < 18446744073709551616) (h2 : v < 9223372036854775808) : (BitVec.ofInt 64 (v : Int)).toNat = v := by
  rw [BitVec.toNat_ofInt]
  have e : (2 : Nat) ^ 64 = 18446744073709551616 := by decide
  rw [e]
  omega
theorem or7 (v b k : Nat) (hk : k < 6) (hv : v < 128 ^ k) (hb : b < 128) : bits .or .i64 (v : Int) ((b : Int) * 2 ^ (7 * k)) = ((v + b * 128 ^ k : Nat) : Int) := by
  have hp : (128 : Nat) ^ k = 2 ^ (7 * k) := by rw [Nat.pow_mul]
  have hpi : ((b : Int) * 2 ^ (7 * k)) = ((b * 2 ^ (7 * k) : Nat) : Int) := by rw [Int.natCast_mul, Int.natCast_pow]; rfl
  rw [hpi, hp]
  rw [hp] at hv
  have h8 : (2 : Nat) ^ (7 * k) * 128 ≤ 2 ^ 42 := by
    rw [show (128 : Nat) = 2 ^ 7 from rfl, ← Nat.pow_add]
    exact Nat.pow_le_pow_right (by decide) (by omega)
  have e42 : (2 : Nat) ^ 42 = 4398046511104 := by decide
  rw [e42] at h8
  have hb2 : b * 2 ^ (7 * k) + 2 ^ (7 * k) ≤ 2 ^ (7 * k) * 128 := by
    have : (b + 1) * 2 ^ (7 * k) ≤ 128 * 2 ^ (7 * k) := Nat.mul_le_mul_right _ (by omega)
    rw [Nat.add_mul, Nat.one_mul] at this
    omega
  obtain ⟨P, hP⟩ : ∃ P, (2 : Nat) ^ (7 * k) = P := ⟨_, rfl⟩
  have h1 : (BitVec.ofInt 64 (v : Int)).toNat = v := toNat_small v (by omega) (by omega)
  have h2 : (BitVec.ofInt 64 ((b * 2 ^ (7 * k) : Nat) : Int)).toNat = b * 2 ^ (7 * k) := toNat_small _ (by omega) (by omega)
  have h3 : v ||| b * 2 ^ (7 * k) = v + b * 2 ^ (7 * k) := by
    rw [← Nat.shiftLeft_eq, Nat.or_comm, ← Nat.shiftLeft_add_eq_or_of_lt hv, Nat.add_comm]
  show IntKind.i64.wrap ((BitVec.ofInt 64 (v : Int) ||| BitVec.ofInt 64 ((b * 2 ^ (7 * k) : Nat) : Int)).toNat : Int) = _
  rw [BitVec.toNat_or, h1, h2, h3, IntKind.wrap_i64]
  omega
end Go.Proofs.Ytfemkbdgbpgjgaa
