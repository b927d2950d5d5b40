/- Runs of programs, plain: what a job's result looks like, where a function goes on, and that every run of a program that makes sense comes to its end. Nothing of the program. -/
import Derived.Test.YtfemkbdgbpgjgaaRunLim
import Derived.Test.YtfemkbdgbpgjgaaRunFns
namespace Go.Proofs.Ytfemkbdgbpgjgaa
open Go.RowKit Go.Lib

/-- What a job can come to. -/
def Fits : Job → RunRes → Prop
  | .eval _ _ _ _ i, .val _ i1 => i < i1
  | .args _ _ _ _ i m, .vals ws i2 => i ≤ i2 ∧ ws.length = m
  | .lines .., .ret _ => True
  | _, .stop c => c = 1 ∨ c = 2
  | _, _ => False
theorem Fits.stop {j : Job} {c : Int} (h : c = 1 ∨ c = 2) : Fits j (.stop c) := by cases j <;> exact h
theorem Fits.stops {j : Job} {c : Int} (h : Fits j (.stop c)) : c = 1 ∨ c = 2 := by cases j <;> exact h
theorem Fits.lines {c c' : List Int} {f f' : Nat} {L L' : List ByteArray} {vs vs' : List Int} {k k' : Nat} {r : RunRes} (h : Fits (.lines c f L vs k) r) : Fits (.lines c' f' L' vs' k') r := by cases r <;> exact h
theorem run_fits (p : List PLine) (ap : Int → Int → Int → Int) (ar : TokL → Nat) (lim : Nat) : ∀ (n : Nat) (j : Job) (s : RunS) (r : RunRes) (s' : RunS), runF p ap ar lim n j s = some (r, s') → Fits j r := by
  intro n
  induction n with
  | zero => intro j s r s' h; cases j <;> simp [runF] at h
  | succ n ih =>
    intro j s r s' h
    have none' : ∀ {a b : RunRes} {s1 s2 : RunS}, some (a, s1) = some (b, s2) → a = b := fun h => by injection h with h; injection h
    cases j with
    | args c k L vs i m =>
      cases m with
      | zero =>
        rw [runF] at h
        rw [← none' h]
        exact ⟨Nat.le_refl _, rfl⟩
      | succ m =>
        rw [runF] at h
        unfold onVal at h
        cases e1 : runF p ap ar lim n (.eval c k L vs i) s with
        | none => rw [e1] at h; cases h
        | some y =>
          obtain ⟨r1, s1⟩ := y
          have h1 := ih _ _ _ _ e1
          rw [e1] at h
          simp only [Option.bind_some] at h
          cases r1 <;> simp only at h
          case val v i1 =>
            unfold onVals at h
            cases e2 : runF p ap ar lim n (.args c k L vs i1 m) s1 with
            | none => rw [e2] at h; cases h
            | some y =>
              obtain ⟨r2, s2⟩ := y
              have h2 := ih _ _ _ _ e2
              rw [e2] at h
              simp only [Option.bind_some] at h
              cases r2 <;> simp only at h
              case vals ws i2 =>
                rw [← none' h]
                have h1 : i < i1 := h1
                exact ⟨by have := h2.1; omega, by simp only [List.length_cons]; have := h2.2; omega⟩
              case stop c => rw [← none' h]; exact h2.stops
              all_goals exact h2.elim
          case stop c => rw [← none' h]; exact h1.stops
          all_goals exact h1.elim
    | eval c k L vs i =>
      rw [runF] at h
      unfold onVals at h
      cases e1 : runF p ap ar lim n (.args c k L vs (i + 1) (ar (tokAt p k i))) s with
      | none => rw [e1] at h; cases h
      | some y =>
        obtain ⟨r1, s1⟩ := y
        have h1 := ih _ _ _ _ e1
        rw [e1] at h
        simp only [Option.bind_some] at h
        cases r1 <;> simp only at h
        case vals ws i1 =>
          have hi : i < i1 := h1.1
          split at h
          · rw [← none' h]; exact hi
          · split at h
            · rw [← none' h]; exact hi
            · split at h
              · split at h
                · rw [← none' h]; exact .inr rfl
                · unfold onRet at h
                  cases e2 : runF p ap ar lim n (Job.lines (c ++ [(k : Int)]) (findZ p (tokAt p k i).name).toNat (locZ p (findZ p (tokAt p k i).name)) (callVars p (findZ p (tokAt p k i).name).toNat ws) ((findZ p (tokAt p k i).name).toNat + 1)) s1 with
                  | none => rw [e2] at h; cases h
                  | some y =>
                    obtain ⟨r2, s2⟩ := y
                    have h2 := ih _ _ _ _ e2
                    rw [e2] at h
                    simp only [Option.bind_some] at h
                    cases r2 <;> simp only at h
                    case ret v => rw [← none' h]; exact hi
                    case stop c => rw [← none' h]; exact h2.stops
                    all_goals (subst_eqs; exact h2.elim)
              · rw [← none' h]; exact hi
        case stop c => rw [← none' h]; exact h1.stops
        all_goals exact h1.elim
    | lines c f L vs k =>
      rw [runF] at h
      split at h
      · rw [← none' h]; trivial
      · split at h
        · exact (ih _ _ _ _ h).lines
        · split at h
          · split at h <;> exact (ih _ _ _ _ h).lines
          · split at h
            · rw [← none' h]; exact .inl rfl
            · unfold onVal at h
              cases e1 : runF p ap ar lim n (.eval c k L vs 0) ⟨s.out, s.vis ++ [c ++ [(k : Int)]]⟩ with
              | none => rw [e1] at h; cases h
              | some y =>
                obtain ⟨r1, s1⟩ := y
                have h1 := ih _ _ _ _ e1
                rw [e1] at h
                simp only [Option.bind_some] at h
                cases r1 <;> simp only at h
                case val v i1 =>
                  split at h
                  · exact (ih _ _ _ _ h).lines
                  · split at h
                    · exact (ih _ _ _ _ h).lines
                    · split at h
                      · rw [← none' h]; trivial
                      · split at h
                        · exact (ih _ _ _ _ h).lines
                        · split at h <;> exact (ih _ _ _ _ h).lines
                case stop c => rw [← none' h]; exact h1.stops
                all_goals exact h1.elim
/-- Where an else that is reached goes on. -/
theorem else_jump {p : List PLine} (ho : OkI p) {k : Nat} (hl : k < p.length) (h4 : p[k].kind = 4) : elseOpen p k < k ∧ elseZ p (elseOpen p k : Int) = (k : Int) ∧ (k : Int) < beZ p (elseOpen p k : Int) := by
  obtain ⟨o, ho1, ho2⟩ := elses_at p p 0 ho.2.2.2.2.1 k hl h4
  rw [Nat.zero_add] at ho1 ho2
  rcases findIdx_range k (fun (i : Nat) => decide (elseZ p (i : Int) = (k : Int))) with h | ⟨h, h'⟩
  · exfalso
    have := List.findIdx_eq_length.1 (show (List.range k).findIdx (fun (i : Nat) => decide (elseZ p (i : Int) = (k : Int))) = (List.range k).length by rw [h, List.length_range]) o (by simpa using ho1)
    simp only [decide_eq_false_iff_not] at this
    exact this ho2
  · have he2 := of_decide_eq_true h'
    have := (elseZ_gt p (elseOpen p k : Int) (by unfold elseOpen; omega)).2
    refine ⟨h, he2, ?_⟩
    unfold elseOpen at this ⊢
    omega
/-- Whose end a line is. -/
theorem end_open {p : List PLine} {k : Nat} (h : endOpen p k ≠ k) : endOpen p k < k ∧ beZ p (endOpen p k : Int) = (k : Int) := by
  rcases findIdx_range k (fun (i : Nat) => decide (beZ p (i : Int) = (k : Int))) with h' | ⟨h', h''⟩
  · exact absurd h' h
  · exact ⟨h', of_decide_eq_true h''⟩
theorem while_jump {p : List PLine} {f k : Nat} (h0 : 0 ≤ beZ p (f : Int)) (hfk : f < k) (hke : (k : Int) < beZ p (f : Int)) (h7 : lkZ p (k : Int) = 7) (h5 : lkZ p (endOpen p k : Int) = 5) : f < endOpen p k ∧ endOpen p k < k ∧ beZ p (endOpen p k : Int) = (k : Int) := by
  have hne : endOpen p k ≠ k := fun h => by rw [h, h7] at h5; exact absurd h5 (by decide)
  obtain ⟨h1, h2⟩ := end_open hne
  refine ⟨?_, h1, h2⟩
  generalize endOpen p k = o at *
  rcases Nat.lt_or_ge f o with h3 | h3
  · exact h3
  · exfalso
    rcases Nat.lt_or_ge o f with h8 | h8
    · have := beZ_apart p o f (by omega) h8 (by omega) h0
      omega
    · have : o = f := by omega
      subst this
      omega
/-- A line that asks has an end. -/
theorem ask_end {p : List PLine} {f k : Nat} (h0 : 0 ≤ beZ p (f : Int)) (hfk : f < k) (hke : (k : Int) < beZ p (f : Int)) (hl : k < p.length) (h : p[k].kind = 3 ∨ p[k].kind = 5) : (k : Int) < beZ p (k : Int) ∧ beZ p (k : Int) < beZ p (f : Int) :=
  beZ_in p (f : Int) k h0 (by omega) hke hl (by unfold isOp; rcases h with h | h <;> rw [h] <;> rfl)
/-- The kinds of lines within a function. -/
theorem kinds_in {p : List PLine} (ho : OkI p) {f k : Nat} (hf : f ∈ funs p) (hfk : f < k) (hke : (k : Int) < beZ p (f : Int)) (hl : k < p.length) : 1 ≤ p[k].kind ∧ p[k].kind ≤ 7 := by
  have hlb := ho.1.2 _ (List.getElem_mem hl)
  have hkd := line_kind _ hlb
  refine ⟨?_, by omega⟩
  by_cases hz : p[k].kind = 0
  · have hk := fun_in p k hl hz
    have := follow_apart p (funs p) 0 ho.2.2.1 f hf k hk hfk
    omega
  · omega

theorem tot_eval {p : List PLine} {ap : Int → Int → Int → Int} {ar : TokL → Nat} {lim : Nat} {c : List Int} {k : Nat} {L : List ByteArray} {vs : List Int} {i n1 : Nat} {s s1 : RunS} {r1 : RunRes}
    (h : runF p ap ar lim n1 (.args c k L vs (i + 1) (ar (tokAt p k i))) s = some (r1, s1))
    (hcall : ∀ ws, (tokAt p k i).kind = 7 → c.length ≠ 6 → ∃ n2 z, runF p ap ar lim n2 (.lines (c ++ [(k : Int)]) (findZ p (tokAt p k i).name).toNat (locZ p (findZ p (tokAt p k i).name)) (callVars p (findZ p (tokAt p k i).name).toNat ws) ((findZ p (tokAt p k i).name).toNat + 1)) s1 = some z) :
    ∃ n z, runF p ap ar lim n (.eval c k L vs i) s = some z := by
  cases r1 with
  | vals ws i1 =>
    by_cases hc : (tokAt p k i).kind = 7 ∧ c.length ≠ 6
    · obtain ⟨n2, z, h2⟩ := hcall ws hc.1 hc.2
      have e1 := runF_le p ap ar lim n1 (n1 + n2) (by omega) _ _ _ h
      have e2 := runF_le p ap ar lim n2 (n1 + n2) (by omega) _ _ _ h2
      refine ⟨n1 + n2 + 1, ?_⟩
      rw [runF]
      simp only [e1, onVals, Option.bind_some]
      rw [if_neg (by rw [hc.1]; decide), if_neg (by rw [hc.1]; decide), if_pos hc.1, if_neg hc.2]
      simp only [e2, onRet, Option.bind_some]
      split <;> exact ⟨_, rfl⟩
    · refine ⟨n1 + 1, ?_⟩
      rw [runF]
      simp only [h, onVals, Option.bind_some]
      split
      · exact ⟨_, rfl⟩
      · split
        · exact ⟨_, rfl⟩
        · split
          · split
            · exact ⟨_, rfl⟩
            · rename_i h7 h6; exact absurd ⟨h7, h6⟩ hc
          · exact ⟨_, rfl⟩
  | val v j => exact ⟨n1 + 1, (.val v j, s1), by rw [runF]; simp only [h, onVals, Option.bind_some]⟩
  | ret v => exact ⟨n1 + 1, (.ret v, s1), by rw [runF]; simp only [h, onVals, Option.bind_some]⟩
  | stop v => exact ⟨n1 + 1, (.stop v, s1), by rw [runF]; simp only [h, onVals, Option.bind_some]⟩
theorem tot_args {p : List PLine} {ap : Int → Int → Int → Int} {ar : TokL → Nat} {lim : Nat} {c : List Int} {k : Nat} {L : List ByteArray} {vs : List Int} (i0 : Nat)
    (he : ∀ i s, i0 < i → s.vis.length ≤ lim → ∃ n z, runF p ap ar lim n (.eval c k L vs i) s = some z) :
    ∀ (m i : Nat) (s : RunS), i0 < i → s.vis.length ≤ lim → ∃ n z, runF p ap ar lim n (.args c k L vs i m) s = some z := by
  intro m
  induction m with
  | zero => intro i s _ _; exact ⟨1, _, rfl⟩
  | succ m ih =>
    intro i s hi hs
    obtain ⟨n1, ⟨r1, s1⟩, h1⟩ := he i s hi hs
    have hf := run_fits p ap ar lim n1 _ _ _ _ h1
    cases r1 with
    | val v i1 =>
      have hi1 : i < i1 := hf
      obtain ⟨n2, z, h2⟩ := ih i1 s1 (by omega) ((runF_grown p ap ar lim n1 _ _ _ h1).2.2.1 hs)
      have e1 := runF_le p ap ar lim n1 (n1 + n2) (by omega) _ _ _ h1
      have e2 := runF_le p ap ar lim n2 (n1 + n2) (by omega) _ _ _ h2
      refine ⟨n1 + n2 + 1, ?_⟩
      rw [runF]
      simp only [e1, onVal, Option.bind_some, e2, onVals]
      split <;> exact ⟨_, rfl⟩
    | vals v j => exact hf.elim
    | ret v => exact hf.elim
    | stop v => exact ⟨n1 + 1, (.stop v, s1), by rw [runF]; simp only [h1, onVal, Option.bind_some]⟩
/-- Expressions come to their end, if the functions that they call do. -/
theorem tot_ev {p : List PLine} {ap : Int → Int → Int → Int} {ar : TokL → Nat} {lim : Nat} (har : ar ⟨0, 0, ⟨#[]⟩⟩ = 0) {c : List Int} {k : Nat} {L : List ByteArray} {vs : List Int} (hl : k < p.length)
    (hcall : ∀ (t : TokL) (ws : List Int) (s : RunS), t ∈ p[k].expr → t.kind = 7 → c.length ≠ 6 → s.vis.length ≤ lim → ∃ n z, runF p ap ar lim n (.lines (c ++ [(k : Int)]) (findZ p t.name).toNat (locZ p (findZ p t.name)) (callVars p (findZ p t.name).toNat ws) ((findZ p t.name).toNat + 1)) s = some z) :
    ∀ (m i : Nat) (s : RunS), p[k].expr.length ≤ i + m → s.vis.length ≤ lim → ∃ n z, runF p ap ar lim n (.eval c k L vs i) s = some z := by
  have hcall' : ∀ i ws (s1 : RunS), s1.vis.length ≤ lim → (tokAt p k i).kind = 7 → c.length ≠ 6 → ∃ n2 z, runF p ap ar lim n2 (.lines (c ++ [(k : Int)]) (findZ p (tokAt p k i).name).toNat (locZ p (findZ p (tokAt p k i).name)) (callVars p (findZ p (tokAt p k i).name).toNat ws) ((findZ p (tokAt p k i).name).toNat + 1)) s1 = some z :=
    fun i ws s1 hs h7 h6 => hcall _ ws s1 (tokAt_mem p k i hl h7) h7 h6 hs
  intro m
  induction m with
  | zero =>
    intro i s hi hs
    have ht : tokAt p k i = ⟨0, 0, ⟨#[]⟩⟩ := by
      unfold tokAt
      rw [List.getElem?_eq_getElem hl]
      simp only
      rw [List.getElem?_eq_none (by omega)]
      rfl
    refine tot_eval (n1 := 1) (r1 := .vals [] (i + 1)) (s1 := s) ?_ (fun ws h7 h6 => hcall' i ws s hs h7 h6)
    rw [ht, har]
    rfl
  | succ m ih =>
    intro i s hi hs
    obtain ⟨n1, ⟨r1, s1⟩, h1⟩ := tot_args (p := p) (ap := ap) (ar := ar) (lim := lim) (c := c) (k := k) (L := L) (vs := vs) i (fun i' s' hi' hs' => ih i' s' (by omega) hs') (ar (tokAt p k i)) (i + 1) s (by omega) hs
    exact tot_eval h1 (fun ws h7 h6 => hcall' i ws s1 ((runF_grown p ap ar lim n1 _ _ _ h1).2.2.1 hs) h7 h6)
/-- What a line still has ahead of it without a visit. -/
def aheadN (p : List PLine) (k : Nat) : Nat := if lkZ p (k : Int) = 4 ∨ lkZ p (k : Int) = 7 then p.length + 1 - k else 0
theorem ahead_le (p : List PLine) (k : Nat) : aheadN p k ≤ p.length + 1 := by unfold aheadN; split <;> omega
theorem tot_lines {p : List PLine} (ho : OkI p) {ap : Int → Int → Int → Int} {ar : TokL → Nat} {lim : Nat} (har : ar ⟨0, 0, ⟨#[]⟩⟩ = 0) {c : List Int} {f : Nat} {L : List ByteArray} (hf : f ∈ funs p)
    (hcall : ∀ (k : Nat) (t : TokL) (ws : List Int) (s : RunS), f < k → (k : Int) < beZ p (f : Int) → ∀ hl : k < p.length, t ∈ p[k].expr → t.kind = 7 → c.length ≠ 6 → s.vis.length ≤ lim → ∃ n z, runF p ap ar lim n (.lines (c ++ [(k : Int)]) (findZ p t.name).toNat (locZ p (findZ p t.name)) (callVars p (findZ p t.name).toNat ws) ((findZ p t.name).toNat + 1)) s = some z) :
    ∀ (M : Nat) (vs : List Int) (k : Nat) (s : RunS), (lim - s.vis.length) * (p.length + 2) + aheadN p k < M → f < k → s.vis.length ≤ lim → ∃ n z, runF p ap ar lim n (.lines c f L vs k) s = some z := by
  intro M
  induction M with
  | zero => intro vs k s h; omega
  | succ M ih =>
    intro vs k s hM hfk hs
    by_cases he : beZ p (f : Int) ≤ (k : Int)
    · exact ⟨1, _, by rw [runF, if_pos he]⟩
    have hke : (k : Int) < beZ p (f : Int) := by omega
    have h0 : 0 ≤ beZ p (f : Int) := by omega
    have hl : k < p.length := by have := (beZ_lt p (f : Int)).2; omega
    by_cases h4 : lkZ p (k : Int) = 4
    · have hj := else_jump ho hl (by rwa [lkZ_at p k hl] at h4)
      obtain ⟨n, z, hz⟩ := ih vs ((beZ p (elseOpen p k : Int)).toNat + 1) s (by
        have ha : aheadN p k = p.length + 1 - k := by unfold aheadN; rw [if_pos (.inl h4)]
        have hb : aheadN p ((beZ p (elseOpen p k : Int)).toNat + 1) ≤ p.length + 1 - ((beZ p (elseOpen p k : Int)).toNat + 1) := by unfold aheadN; split <;> omega
        omega) (by omega) hs
      exact ⟨n + 1, z, by rw [runF, if_neg he, if_pos h4]; exact hz⟩
    by_cases h7 : lkZ p (k : Int) = 7
    · have ha : aheadN p k = p.length + 1 - k := by unfold aheadN; rw [if_pos (.inr h7)]
      by_cases h5 : lkZ p (endOpen p k : Int) = 5
      · have hj := while_jump h0 hfk hke h7 h5
        obtain ⟨n, z, hz⟩ := ih vs (endOpen p k) s (by
          have hb : aheadN p (endOpen p k) = 0 := by unfold aheadN; rw [if_neg (by rw [h5]; decide)]
          omega) hj.1 hs
        exact ⟨n + 1, z, by rw [runF, if_neg he, if_neg h4, if_pos h7, if_pos h5]; exact hz⟩
      · obtain ⟨n, z, hz⟩ := ih vs (k + 1) s (by
          have hb : aheadN p (k + 1) ≤ p.length + 1 - (k + 1) := by unfold aheadN; split <;> omega
          omega) (by omega) hs
        exact ⟨n + 1, z, by rw [runF, if_neg he, if_neg h4, if_pos h7, if_neg h5]; exact hz⟩
    by_cases hv : s.vis.length = lim
    · exact ⟨1, _, by rw [runF, if_neg he, if_neg h4, if_neg h7, if_pos hv]⟩
    have hs1 : (s.vis ++ [c ++ [(k : Int)]]).length ≤ lim := by simp only [List.length_append, List.length_cons, List.length_nil]; omega
    obtain ⟨n1, ⟨r1, s1⟩, h1⟩ := tot_ev (ap := ap) (vs := vs) (L := L) har hl (fun t ws s' ht h7 h6 hs' => hcall k t ws s' hfk hke hl ht h7 h6 hs') p[k].expr.length 0 ⟨s.out, s.vis ++ [c ++ [(k : Int)]]⟩ (by omega) hs1
    have hfit := run_fits p ap ar lim n1 _ _ _ _ h1
    have hgr := runF_grown p ap ar lim n1 _ _ _ h1
    cases r1 with
    | vals v j => exact hfit.elim
    | ret v => exact hfit.elim
    | stop v => exact ⟨n1 + 1, (.stop v, s1), by rw [runF, if_neg he, if_neg h4, if_neg h7, if_neg hv]; simp only [h1, onVal, Option.bind_some]⟩
    | val v j =>
      have hlen : s.vis.length + 1 ≤ s1.vis.length := by
        have := hgr.1.length_le
        simp only [List.length_append, List.length_cons, List.length_nil] at this
        omega
      have hs2 : s1.vis.length ≤ lim := hgr.2.2.1 hs1
      have hmul : (lim - s1.vis.length) * (p.length + 2) + (p.length + 2) ≤ (lim - s.vis.length) * (p.length + 2) := by
        rw [← Nat.succ_mul]
        exact Nat.mul_le_mul_right _ (by omega)
      have hgo : ∀ (vs' : List Int) (k' : Nat) (o : List Int), f < k' → ∃ n z, runF p ap ar lim n (.lines c f L vs' k') ⟨o, s1.vis⟩ = some z := fun vs' k' o hk' => ih vs' k' ⟨o, s1.vis⟩ (by have := ahead_le p k'; simp only; omega) hk' hs2
      have hkd := kinds_in ho hf hfk hke hl
      rw [lkZ_at p k hl] at h4 h7
      have hfin : ∀ (F : Nat → RunO), (∃ n z, F n = some z) → (∀ n m z, n ≤ m → F n = some z → F m = some z) → (∀ n, n1 ≤ n → runF p ap ar lim (n + 1) (.lines c f L vs k) s = F n) → ∃ n z, runF p ap ar lim n (.lines c f L vs k) s = some z := by
        rintro F ⟨n, z, hF⟩ hm hu
        exact ⟨n1 + n + 1, z, by rw [hu (n1 + n) (by omega)]; exact hm _ _ _ (by omega) hF⟩
      have hopen : ∀ n, n1 ≤ n → runF p ap ar lim (n + 1) (.lines c f L vs k) s = if lkZ p (k : Int) = 1 then runF p ap ar lim n (.lines c f L (vs.set (varIx L (nameAt p k)) v) (k + 1)) s1
          else if lkZ p (k : Int) = 2 then runF p ap ar lim n (.lines c f L vs (k + 1)) ⟨s1.out ++ [v], s1.vis⟩
          else if lkZ p (k : Int) = 6 then some (.ret v, s1)
          else if v ≠ 0 then runF p ap ar lim n (.lines c f L vs (k + 1)) s1
          else if lkZ p (k : Int) = 3 ∧ 0 ≤ elseZ p (k : Int) then runF p ap ar lim n (.lines c f L vs ((elseZ p (k : Int)).toNat + 1)) s1
          else runF p ap ar lim n (.lines c f L vs ((beZ p (k : Int)).toNat + 1)) s1 := fun n hn => by
        have e1 := runF_le p ap ar lim n1 n hn _ _ _ h1
        rw [runF, if_neg he, if_neg (by rw [lkZ_at p k hl]; exact h4), if_neg (by rw [lkZ_at p k hl]; exact h7), if_neg hv]
        simp only [e1, onVal, Option.bind_some]
      have hmono : ∀ (j : Job) (s : RunS) n m z, n ≤ m → runF p ap ar lim n j s = some z → runF p ap ar lim m j s = some z := fun j s n m z hn h => runF_le p ap ar lim n m hn j s z h
      rw [lkZ_at p k hl] at hopen
      by_cases k1 : p[k].kind = 1
      · exact hfin _ (hgo (vs.set (varIx L (nameAt p k)) v) (k + 1) s1.out (by omega)) (hmono _ _) (fun n hn => by rw [hopen n hn, if_pos k1])
      by_cases k2 : p[k].kind = 2
      · exact hfin _ (hgo vs (k + 1) (s1.out ++ [v]) (by omega)) (hmono _ _) (fun n hn => by rw [hopen n hn, if_neg k1, if_pos k2])
      by_cases k6 : p[k].kind = 6
      · exact ⟨n1 + 1, _, by rw [hopen n1 (Nat.le_refl _), if_neg k1, if_neg k2, if_pos k6]⟩
      by_cases v0 : v ≠ 0
      · exact hfin _ (hgo vs (k + 1) s1.out (by omega)) (hmono _ _) (fun n hn => by rw [hopen n hn, if_neg k1, if_neg k2, if_neg k6, if_pos v0])
      by_cases h3 : p[k].kind = 3 ∧ 0 ≤ elseZ p (k : Int)
      · have := elseZ_gt p (k : Int) h3.2
        exact hfin _ (hgo vs ((elseZ p (k : Int)).toNat + 1) s1.out (by omega)) (hmono _ _) (fun n hn => by rw [hopen n hn, if_neg k1, if_neg k2, if_neg k6, if_neg v0, if_pos h3])
      · have := ask_end h0 hfk hke hl (by omega)
        exact hfin _ (hgo vs ((beZ p (k : Int)).toNat + 1) s1.out (by omega)) (hmono _ _) (fun n hn => by rw [hopen n hn, if_neg k1, if_neg k2, if_neg k6, if_neg v0, if_neg h3])
/-- Every run of a program that makes sense comes to its end. -/
theorem run_total {p : List PLine} (ho : OkI p) {ap : Int → Int → Int → Int} {ar : TokL → Nat} {lim : Nat} (har : ar ⟨0, 0, ⟨#[]⟩⟩ = 0) : ∀ (d : Nat) (c : List Int) (f : Nat) (L : List ByteArray) (vs : List Int) (k : Nat) (s : RunS), c.length + d = 6 → f ∈ funs p → f < k → s.vis.length ≤ lim → ∃ n z, runF p ap ar lim n (.lines c f L vs k) s = some z := by
  intro d
  induction d with
  | zero =>
    intro c f L vs k s hd hf hfk hs
    exact tot_lines ho har hf (fun k t ws s' _ _ _ _ _ h6 => absurd (by omega) h6) _ vs k s (Nat.lt_succ_self _) hfk hs
  | succ d ih =>
    intro c f L vs k s hd hf hfk hs
    refine tot_lines ho har hf (fun k t ws s' h1 h2 hl ht h7 h6 hs' => ?_) _ vs k s (Nat.lt_succ_self _) hfk hs
    have hk := (line_in ho hf h1 h2 hl _ ht).2 h7
    obtain ⟨f', hf'⟩ := Int.eq_ofNat_of_zero_le hk.1
    rw [hf', Int.toNat_natCast]
    exact ih _ _ _ _ _ _ (by simp only [List.length_append, List.length_cons, List.length_nil]; omega) (findZ_fun p _ _ hf') (Nat.lt_succ_self _) hs'
end Go.Proofs.Ytfemkbdgbpgjgaa
