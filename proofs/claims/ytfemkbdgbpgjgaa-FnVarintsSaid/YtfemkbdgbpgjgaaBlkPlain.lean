/- Blocks: where their elses and ends are; and functions that follow one another. Nothing of the program. -/
import Derived.Test.YtfemkbdgbpgjgaaOkPlain
namespace Go.Proofs.Ytfemkbdgbpgjgaa
open Go.RowKit Go.Lib

theorem elseF_ge (p : List PLine) (k : Int) (hk0 : 0 ≤ beZ p k) : ∀ (f i : Nat), k < (i : Int) → elseF p (beZ p k) f i = -1 ∨ (i : Int) ≤ elseF p (beZ p k) f i := by
  intro f
  induction f with
  | zero => intro i _; exact .inl rfl
  | succ f ih =>
    intro i hki
    rw [elseF]
    by_cases hi : beZ p k ≤ (i : Int)
    · rw [if_pos hi]; exact .inl rfl
    · rw [if_neg hi]
      have hl := (beZ_lt p k).2
      have hil : i < p.length := by omega
      by_cases h4 : lkZ p i = 4
      · rw [if_pos h4]; exact .inr (Int.le_refl _)
      · rw [if_neg h4]
        by_cases h35 : lkZ p i = 3 ∨ lkZ p i = 5
        · rw [if_pos h35]
          have hop : isOp p[i].kind = true := by
            rw [lkZ_at p i hil] at h35
            unfold isOp
            rcases h35 with h | h <;> rw [h] <;> rfl
          have := beZ_in p k i hk0 hki (by omega) hil hop
          rcases ih ((beZ p (i : Int)).toNat + 1) (by omega) with h | h
          · exact .inl h
          · exact .inr (by omega)
        · rw [if_neg h35]
          rcases ih (i + 1) (by omega) with h | h
          · exact .inl h
          · exact .inr (by omega)
theorem elseZ_gt (p : List PLine) (k : Int) (h : 0 ≤ elseZ p k) : k < elseZ p k ∧ elseZ p k < beZ p k := by
  refine ⟨?_, elseZ_lt p k h⟩
  unfold elseZ at h ⊢
  by_cases hc : 0 ≤ beZ p k ∧ lkZ p k = 3
  · rw [if_pos hc] at h ⊢
    obtain ⟨j, hj, _⟩ := beZ_is p k hc.1
    rcases elseF_ge p k hc.1 p.length (k.toNat + 1) (by omega) with h' | h'
    · rw [h'] at h; exact absurd h (by decide)
    · omega
  · rw [if_neg hc] at h; exact absurd h (by decide)
theorem beZ_gt (p : List PLine) (k : Int) (h : 0 ≤ beZ p k) : k < beZ p k := by
  obtain ⟨j, hj, _, _, h1, _⟩ := beZ_is p k h
  omega
/-- Blocks lie within each other or apart. -/
theorem beZ_apart (p : List PLine) (a b : Nat) (h : 0 ≤ beZ p (a : Int)) (hab : a < b) (hbx : (b : Int) < beZ p (a : Int)) (hy : 0 ≤ beZ p (b : Int)) : beZ p (b : Int) < beZ p (a : Int) := by
  obtain ⟨j, hj, hjl, hop, _, _⟩ := beZ_is p (b : Int) hy
  have : j = b := by omega
  subst this
  exact (beZ_in p (a : Int) j h (by omega) hbx hjl hop).2
theorem follow_next (p : List PLine) (l : List Nat) : ∀ n, followF p n l → ∀ i, ∀ h : i + 1 < l.length, ((l[i + 1] : Nat) : Int) = beZ p ((l[i] : Nat) : Int) + 1 := by
  induction l with
  | nil => intro n _ i h; simp at h
  | cons x r ih =>
    intro n hf i h
    cases i with
    | succ i => exact ih _ hf.2.2 i (by simpa using h)
    | zero =>
      cases r with
      | nil => simp at h
      | cons y r => exact hf.2.2.1
theorem funs_pos (p : List PLine) (h : findZ p mainT = 0) : 0 < (funs p).length := by
  obtain ⟨hl, hk, _⟩ := (find_zero p mainT).1 h
  have : 0 ∈ funs p := by
    unfold funs
    rw [funs_mem p 0 0]
    exact ⟨hl, Nat.le_refl _, hk⟩
  exact List.length_pos_of_mem this
end Go.Proofs.Ytfemkbdgbpgjgaa
