/- Runs of programs, plain: what a run that is known says of its parts. Nothing of the program. -/
import Derived.Test.YtcnnfhcpkbjolaaRunMore
namespace Go.Proofs.Ytcnnfhcpkbjolaa
open Go.RowKit Go.Lib

/-- Values in front of a result. -/
def pre (acc : List Int) : RunRes → RunRes
  | .vals ws i => .vals (acc ++ ws) i
  | r => r
section
variable {p : List PLine} {ap : Int → Int → Int → Int} {ar : TokL → Nat} {lim n : Nat} {c : List Int} {f k i m : Nat} {L : List ByteArray} {vs : List Int} {s : RunS} {z : RunRes × RunS}
theorem no_fuel {j : Job} (h : runF p ap ar lim 0 j s = some z) : False := by cases j <;> simp [runF] at h
theorem args_done (h : runF p ap ar lim n (.args c k L vs i 0) s = some z) : z = (.vals [] i, s) := by
  cases n with
  | zero => exact (no_fuel h).elim
  | succ n => rw [runF] at h; injection h with h; exact h.symm
theorem args_inv (h : runF p ap ar lim (n + 1) (.args c k L vs i (m + 1)) s = some z) : ∃ r1 s1, runF p ap ar lim n (.eval c k L vs i) s = some (r1, s1) ∧ ((∃ q, r1 = .stop q ∧ z = (.stop q, s1)) ∨ ∃ v i1, r1 = .val v i1 ∧ ∃ r2 s2, runF p ap ar lim n (.args c k L vs i1 m) s1 = some (r2, s2) ∧ z = (pre [v] r2, s2)) := by
  rw [runF] at h
  unfold onVal at h
  cases e1 : runF p ap ar lim n (.eval c k L vs i) s with
  | none => rw [e1] at h; cases h
  | some y =>
    obtain ⟨r1, s1⟩ := y
    have hf := run_fits p ap ar lim n _ _ _ _ e1
    rw [e1] at h
    simp only [Option.bind_some] at h
    refine ⟨r1, s1, rfl, ?_⟩
    cases r1 <;> simp only at h
    case stop q => exact .inl ⟨q, rfl, by injection h with h; exact h.symm⟩
    case val v i1 =>
      refine .inr ⟨v, i1, rfl, ?_⟩
      unfold onVals at h
      cases e2 : runF p ap ar lim n (.args c k L vs i1 m) s1 with
      | none => rw [e2] at h; cases h
      | some y =>
        obtain ⟨r2, s2⟩ := y
        have hf2 := run_fits p ap ar lim n _ _ _ _ e2
        rw [e2] at h
        simp only [Option.bind_some] at h
        refine ⟨r2, s2, rfl, ?_⟩
        cases r2 <;> simp only at h
        case vals ws i2 => injection h with h; exact h.symm
        case stop q => injection h with h; exact h.symm
        all_goals exact hf2.elim
    all_goals exact hf.elim
theorem pre_pre (a b : List Int) (r : RunRes) : pre a (pre b r) = pre (a ++ b) r := by cases r <;> simp [pre]
theorem pre_nil (r : RunRes) : pre [] r = r := by cases r <;> simp [pre]
/-- An expression, in its cases. -/
theorem eval_inv (h : runF p ap ar lim (n + 1) (.eval c k L vs i) s = some z) : ∃ r1 s1, runF p ap ar lim n (.args c k L vs (i + 1) (ar (tokAt p k i))) s = some (r1, s1) ∧ ((∃ q, r1 = .stop q ∧ z = (.stop q, s1)) ∨ ∃ ws i1, r1 = .vals ws i1 ∧ ws.length = ar (tokAt p k i) ∧ i < i1 ∧
    (((tokAt p k i).kind = 0 → z = (.val (tokAt p k i).num i1, s1)) ∧ ((tokAt p k i).kind = 1 → z = (.val ((vs[varIx L (tokAt p k i).name]?).getD 0) i1, s1)) ∧ ((tokAt p k i).kind = 7 → c.length = 6 → z = (.stop 2, s1)) ∧
      ((tokAt p k i).kind = 7 → c.length ≠ 6 → ∃ r2 s2, runF p ap ar lim n (.lines (c ++ [(k : Int)]) (findZ p (tokAt p k i).name).toNat (locZ p (findZ p (tokAt p k i).name)) (callVars p (findZ p (tokAt p k i).name).toNat ws) ((findZ p (tokAt p k i).name).toNat + 1)) s1 = some (r2, s2) ∧ ((∃ q, r2 = .stop q ∧ z = (.stop q, s2)) ∨ ∃ v, r2 = .ret v ∧ z = (.val v i1, s2))) ∧
      ((tokAt p k i).kind ≠ 0 → (tokAt p k i).kind ≠ 1 → (tokAt p k i).kind ≠ 7 → z = (.val (ap (tokAt p k i).kind ((ws[0]?).getD 0) ((ws[1]?).getD 0)) i1, s1)))) := by
  rw [runF] at h
  unfold onVals at h
  cases e1 : runF p ap ar lim n (.args c k L vs (i + 1) (ar (tokAt p k i))) s with
  | none => rw [e1] at h; cases h
  | some y =>
    obtain ⟨r1, s1⟩ := y
    have hf := run_fits p ap ar lim n _ _ _ _ e1
    rw [e1] at h
    simp only [Option.bind_some] at h
    refine ⟨r1, s1, rfl, ?_⟩
    cases r1 <;> simp only at h
    case stop q => exact .inl ⟨q, rfl, by injection h with h; exact h.symm⟩
    case vals ws i1 =>
      refine .inr ⟨ws, i1, rfl, hf.2, hf.1, ?_⟩
      generalize tokAt p k i = t at *
      have out : ∀ {a b : RunRes × RunS}, some a = some b → b = a := fun h => by injection h with h; exact h.symm
      refine ⟨fun h0 => ?_, fun h1 => ?_, fun h7 h6 => ?_, fun h7 h6 => ?_, fun h0 h1 h7 => ?_⟩
      · rw [if_pos h0] at h; exact out h
      · rw [if_neg (by rw [h1]; decide), if_pos h1] at h; exact out h
      · rw [if_neg (by rw [h7]; decide), if_neg (by rw [h7]; decide), if_pos h7, if_pos h6] at h; exact out h
      · rw [if_neg (by rw [h7]; decide), if_neg (by rw [h7]; decide), if_pos h7, if_neg h6] at h
        unfold onRet at h
        cases e2 : runF p ap ar lim n (.lines (c ++ [(k : Int)]) (findZ p t.name).toNat (locZ p (findZ p t.name)) (callVars p (findZ p t.name).toNat ws) ((findZ p t.name).toNat + 1)) s1 with
        | none => rw [e2] at h; cases h
        | some y =>
          obtain ⟨r2, s2⟩ := y
          have hf2 := run_fits p ap ar lim n _ _ _ _ e2
          rw [e2] at h
          simp only [Option.bind_some] at h
          refine ⟨r2, s2, rfl, ?_⟩
          cases r2 <;> simp only at h
          case stop q => exact .inl ⟨q, rfl, out h⟩
          case ret v => exact .inr ⟨v, rfl, out h⟩
          all_goals exact hf2.elim
      · rw [if_neg h0, if_neg h1, if_neg h7] at h; exact out h
    all_goals exact hf.elim
/-- A line, in its cases. -/
def AfterL (p : List PLine) (ap : Int → Int → Int → Int) (ar : TokL → Nat) (lim n : Nat) (c : List Int) (f : Nat) (L : List ByteArray) (vs : List Int) (k : Nat) (v : Int) (s1 : RunS) (z : RunRes × RunS) : Prop :=
  (lkZ p (k : Int) = 1 → runF p ap ar lim n (.lines c f L (vs.set (varIx L (nameAt p k)) v) (k + 1)) s1 = some z) ∧ (lkZ p (k : Int) = 2 → runF p ap ar lim n (.lines c f L vs (k + 1)) ⟨s1.out ++ [v], s1.vis⟩ = some z) ∧ (lkZ p (k : Int) = 6 → z = (.ret v, s1)) ∧
  (lkZ p (k : Int) = 3 ∨ lkZ p (k : Int) = 5 → v ≠ 0 → runF p ap ar lim n (.lines c f L vs (k + 1)) s1 = some z) ∧ (lkZ p (k : Int) = 3 → v = 0 → 0 ≤ elseZ p (k : Int) → runF p ap ar lim n (.lines c f L vs ((elseZ p (k : Int)).toNat + 1)) s1 = some z) ∧
  (lkZ p (k : Int) = 3 → v = 0 → ¬ 0 ≤ elseZ p (k : Int) → runF p ap ar lim n (.lines c f L vs ((beZ p (k : Int)).toNat + 1)) s1 = some z) ∧ (lkZ p (k : Int) = 5 → v = 0 → runF p ap ar lim n (.lines c f L vs ((beZ p (k : Int)).toNat + 1)) s1 = some z)
theorem lines_over (h : runF p ap ar lim n (.lines c f L vs k) s = some z) (he : beZ p (f : Int) ≤ (k : Int)) : z = (.ret 0, s) := by
  cases n with
  | zero => exact (no_fuel h).elim
  | succ n => rw [runF, if_pos he] at h; injection h with h; exact h.symm
theorem lines_else (h : runF p ap ar lim (n + 1) (.lines c f L vs k) s = some z) (he : ¬ beZ p (f : Int) ≤ (k : Int)) (h4 : lkZ p (k : Int) = 4) : runF p ap ar lim n (.lines c f L vs ((beZ p (elseOpen p k : Int)).toNat + 1)) s = some z := by
  rw [runF, if_neg he, if_pos h4] at h; exact h
theorem lines_back (h : runF p ap ar lim (n + 1) (.lines c f L vs k) s = some z) (he : ¬ beZ p (f : Int) ≤ (k : Int)) (h7 : lkZ p (k : Int) = 7) (h5 : lkZ p (endOpen p k : Int) = 5) : runF p ap ar lim n (.lines c f L vs (endOpen p k)) s = some z := by
  rw [runF, if_neg he, if_neg (by rw [h7]; decide), if_pos h7, if_pos h5] at h; exact h
theorem lines_on (h : runF p ap ar lim (n + 1) (.lines c f L vs k) s = some z) (he : ¬ beZ p (f : Int) ≤ (k : Int)) (h7 : lkZ p (k : Int) = 7) (h5 : lkZ p (endOpen p k : Int) ≠ 5) : runF p ap ar lim n (.lines c f L vs (k + 1)) s = some z := by
  rw [runF, if_neg he, if_neg (by rw [h7]; decide), if_pos h7, if_neg h5] at h; exact h
theorem lines_full (h : runF p ap ar lim (n + 1) (.lines c f L vs k) s = some z) (he : ¬ beZ p (f : Int) ≤ (k : Int)) (h4 : lkZ p (k : Int) ≠ 4) (h7 : lkZ p (k : Int) ≠ 7) (hv : s.vis.length = lim) : z = (.stop 1, s) := by
  rw [runF, if_neg he, if_neg h4, if_neg h7, if_pos hv] at h; injection h with h; exact h.symm
theorem lines_visit (h : runF p ap ar lim (n + 1) (.lines c f L vs k) s = some z) (he : ¬ beZ p (f : Int) ≤ (k : Int)) (h4 : lkZ p (k : Int) ≠ 4) (h7 : lkZ p (k : Int) ≠ 7) (hv : s.vis.length ≠ lim) :
    ∃ r1 s1, runF p ap ar lim n (.eval c k L vs 0) ⟨s.out, s.vis ++ [c ++ [(k : Int)]]⟩ = some (r1, s1) ∧ ((∃ q, r1 = .stop q ∧ z = (.stop q, s1)) ∨ ∃ v i1, r1 = .val v i1 ∧ AfterL p ap ar lim n c f L vs k v s1 z) := by
  rw [runF, if_neg he, if_neg h4, if_neg h7, if_neg hv] at h
  unfold onVal at h
  cases e1 : runF p ap ar lim n (.eval c k L vs 0) ⟨s.out, s.vis ++ [c ++ [(k : Int)]]⟩ with
  | none => rw [e1] at h; cases h
  | some y =>
    obtain ⟨r1, s1⟩ := y
    have hf := run_fits p ap ar lim n _ _ _ _ e1
    rw [e1] at h
    simp only [Option.bind_some] at h
    refine ⟨r1, s1, rfl, ?_⟩
    cases r1 <;> simp only at h
    case stop q => exact .inl ⟨q, rfl, by injection h with h; exact h.symm⟩
    case val v i1 =>
      refine .inr ⟨v, i1, rfl, ?_⟩
      unfold AfterL
      generalize lkZ p (k : Int) = kd at *
      refine ⟨fun e => ?_, fun e => ?_, fun e => ?_, fun e e2 => ?_, fun e e2 e3 => ?_, fun e e2 e3 => ?_, fun e e2 => ?_⟩
      · rw [if_pos e] at h; exact h
      · rw [if_neg (by rw [e]; decide), if_pos e] at h; exact h
      · rw [if_neg (by rw [e]; decide), if_neg (by rw [e]; decide), if_pos e] at h; injection h with h; exact h.symm
      · rw [if_neg (by omega), if_neg (by omega), if_neg (by omega), if_pos e2] at h; exact h
      · rw [if_neg (by omega), if_neg (by omega), if_neg (by omega), if_neg (by simpa using e2), if_pos ⟨e, e3⟩] at h; exact h
      · rw [if_neg (by omega), if_neg (by omega), if_neg (by omega), if_neg (by simpa using e2), if_neg (fun hc => e3 hc.2)] at h; exact h
      · rw [if_neg (by omega), if_neg (by omega), if_neg (by omega), if_neg (by simpa using e2), if_neg (fun hc => by rw [e] at hc; exact absurd hc.1 (by decide))] at h; exact h
    all_goals exact hf.elim
end
end Go.Proofs.Ytcnnfhcpkbjolaa
