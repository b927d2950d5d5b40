/- Plain facts on expressions. Nothing of the program. -/
import Derived.Test.YtbdplcbmfcfigaaDoorTokPlain
namespace Go.Proofs.YtbdplcbmfcfigaaDoor
open Go.RowKit Go.Lib

/-- How many tokens are taken until n expressions are complete. -/
def scanN : List TokL → Nat → Option Nat
  | _, 0 => some 0
  | [], _ + 1 => none
  | t :: r, n + 1 => if tokB t = true then (scanN r (n + (arZ t).toNat)).map (· + 1) else none
def resZ (o : Option Nat) (i : Nat) : Int := match o with
  | none => -1
  | some k => (i : Int) + (k : Int)
/-- The index behind the expression that begins at an index; -1 if there is none. -/
def endZ (l : List TokL) (a : Int) : Int := if a < 0 then -1 else resZ (scanN (l.drop a.toNat) 1) a.toNat

theorem scan_zero (l : List TokL) (i : Nat) : resZ (scanN l 0) i = i := by cases l <;> simp [scanN, resZ]
theorem scan_out (l : List TokL) (i n : Nat) (h : l.length ≤ i) (hn : 0 < n) : resZ (scanN (l.drop i) n) i = -1 := by
  rw [List.drop_eq_nil_of_le h]
  cases n with
  | zero => omega
  | succ n => rfl
theorem scan_bad (l : List TokL) (i n : Nat) (h : i < l.length) (hn : 0 < n) (hb : tokB l[i] = false) : resZ (scanN (l.drop i) n) i = -1 := by
  rw [List.drop_eq_getElem_cons h]
  cases n with
  | zero => omega
  | succ n => simp only [scanN]; rw [hb]; rfl
theorem scan_ok (l : List TokL) (i n : Nat) (h : i < l.length) (hn : 0 < n) (hb : tokB l[i] = true) : resZ (scanN (l.drop i) n) i = resZ (scanN (l.drop (i + 1)) (n - 1 + (arZ l[i]).toNat)) (i + 1) := by
  rw [List.drop_eq_getElem_cons h]
  cases n with
  | zero => omega
  | succ n =>
    simp only [scanN]
    rw [if_pos hb, Nat.add_sub_cancel]
    cases scanN (l.drop (i + 1)) (n + (arZ l[i]).toNat) with
    | none => rfl
    | some k => simp only [Option.map_some, resZ]; omega
theorem scan_len (l : List TokL) : ∀ (n k : Nat), scanN l n = some k → k ≤ l.length := by
  induction l with
  | nil =>
    intro n k h
    cases n with
    | zero => simp only [scanN, Option.some.injEq] at h; omega
    | succ n => simp [scanN] at h
  | cons t r ih =>
    intro n k h
    cases n with
    | zero => simp only [scanN, Option.some.injEq] at h; omega
    | succ n =>
      simp only [scanN] at h
      split at h
      · simp only [Option.map_eq_some_iff] at h
        obtain ⟨m, hm, rfl⟩ := h
        have := ih _ _ hm
        simp; omega
      · cases h
theorem endZ_neg (l : List TokL) (a : Int) (h : a < 0) : endZ l a = -1 := by unfold endZ; rw [if_pos h]
theorem endZ_nat (l : List TokL) (i : Nat) : endZ l (i : Int) = resZ (scanN (l.drop i) 1) i := by unfold endZ; rw [if_neg (by omega)]; simp
theorem endZ_bd (l : List TokL) (a : Int) : -1 ≤ endZ l a ∧ (endZ l a = -1 ∨ (0 ≤ a ∧ a < endZ l a ∧ endZ l a ≤ l.length)) := by
  by_cases h : a < 0
  · rw [endZ_neg l a h]; omega
  obtain ⟨i, rfl⟩ := Int.eq_ofNat_of_zero_le (by omega : 0 ≤ a)
  rw [endZ_nat]
  cases hs : scanN (l.drop i) 1 with
  | none => simp [resZ]
  | some k =>
    have h1 := scan_len _ _ _ hs
    have h2 : 0 < k := by
      rcases Nat.eq_zero_or_pos k with h0 | h0
      · subst h0
        cases hd : l.drop i with
        | nil => rw [hd] at hs; simp [scanN] at hs
        | cons t r =>
          rw [hd] at hs
          simp only [scanN] at hs
          split at hs
          · simp at hs
          · cases hs
      · exact h0
    simp only [resZ]
    rw [List.length_drop] at h1
    omega
/-- At most 20 tokens, which are one expression. -/
def exprB (l : List TokL) : Bool := decide (l.length ≤ 20) && decide (endZ l 0 = (l.length : Int))
end Go.Proofs.YtbdplcbmfcfigaaDoor
