/- Runs of programs, plain: what a program does from a job on, with a bound on the steps; what it comes to does not hang on the bound. Nothing of the program. -/
import Derived.Test.YtfemkbdgbpgjgaaOkPlain
namespace Go.Proofs.Ytfemkbdgbpgjgaa
open Go.RowKit Go.Lib

/-- What a run has put out, and what it has visited. -/
structure RunS where
  out : List Int
  vis : List (List Int)
/-- What is to be done: an expression from a token on; so many operands; a function's lines from one on. -/
inductive Job where
  | eval (c : List Int) (k : Nat) (L : List ByteArray) (vs : List Int) (i : Nat)
  | args (c : List Int) (k : Nat) (L : List ByteArray) (vs : List Int) (i n : Nat)
  | lines (c : List Int) (f : Nat) (L : List ByteArray) (vs : List Int) (k : Nat)
/-- What it comes to: a value and the token behind it; values; a function's value; the run's end. -/
inductive RunRes where
  | val (v : Int) (i : Nat)
  | vals (vs : List Int) (i : Nat)
  | ret (v : Int)
  | stop (c : Int)
abbrev RunO := Option (RunRes × RunS)
def onVal (x : RunO) (f : Int → Nat → RunS → RunO) : RunO := x.bind fun y => match y.1 with
  | .val v i => f v i y.2
  | r => some (r, y.2)
def onVals (x : RunO) (f : List Int → Nat → RunS → RunO) : RunO := x.bind fun y => match y.1 with
  | .vals vs i => f vs i y.2
  | r => some (r, y.2)
def onRet (x : RunO) (f : Int → RunS → RunO) : RunO := x.bind fun y => match y.1 with
  | .ret v => f v y.2
  | r => some (r, y.2)
/-- Token i of line k. -/
def tokAt (p : List PLine) (k i : Nat) : TokL := match p[k]? with
  | none => ⟨0, 0, ⟨#[]⟩⟩
  | some x => (x.expr[i]?).getD ⟨0, 0, ⟨#[]⟩⟩
def nameAt (p : List PLine) (k : Nat) : ByteArray := match p[k]? with
  | none => ⟨#[]⟩
  | some x => x.name
/-- The place of a variable. -/
def varIx (L : List ByteArray) (n : ByteArray) : Nat := L.findIdx (fun y => decide (y = n))
/-- The line whose else line k is; the line whose end line k is. -/
def elseOpen (p : List PLine) (k : Nat) : Nat := (List.range k).findIdx fun (i : Nat) => decide (elseZ p (i : Int) = (k : Int))
def endOpen (p : List PLine) (k : Nat) : Nat := (List.range k).findIdx fun (i : Nat) => decide (beZ p (i : Int) = (k : Int))
/-- The variables of a call. -/
def callVars (p : List PLine) (f : Nat) (ws : List Int) : List Int := ws ++ List.replicate ((locZ p (f : Int)).length - ws.length) 0
/-- A run, of at most so many steps deep; ap: the operators. -/
def runF (p : List PLine) (ap : Int → Int → Int → Int) (ar : TokL → Nat) (lim : Nat) : Nat → Job → RunS → RunO
  | 0, _, _ => none
  | n + 1, .args c k L vs i 0, s => some (.vals [] i, s)
  | n + 1, .args c k L vs i (m + 1), s =>
    onVal (runF p ap ar lim n (.eval c k L vs i) s) fun v i1 s1 => onVals (runF p ap ar lim n (.args c k L vs i1 m) s1) fun ws i2 s2 => some (.vals (v :: ws) i2, s2)
  | n + 1, .eval c k L vs i, s =>
    let t := tokAt p k i
    onVals (runF p ap ar lim n (.args c k L vs (i + 1) (ar t)) s) fun ws i1 s1 =>
      if t.kind = 0 then some (.val t.num i1, s1)
      else if t.kind = 1 then some (.val ((vs[varIx L t.name]?).getD 0) i1, s1)
      else if t.kind = 7 then
        if c.length = 6 then some (.stop 2, s1)
        else onRet (runF p ap ar lim n (.lines (c ++ [(k : Int)]) (findZ p t.name).toNat (locZ p (findZ p t.name)) (callVars p (findZ p t.name).toNat ws) ((findZ p t.name).toNat + 1)) s1) fun v s2 => some (.val v i1, s2)
      else some (.val (ap t.kind ((ws[0]?).getD 0) ((ws[1]?).getD 0)) i1, s1)
  | n + 1, .lines c f L vs k, s =>
    if beZ p (f : Int) ≤ (k : Int) then some (.ret 0, s)
    else if lkZ p (k : Int) = 4 then runF p ap ar lim n (.lines c f L vs ((beZ p (elseOpen p k : Int)).toNat + 1)) s
    else if lkZ p (k : Int) = 7 then
      if lkZ p (endOpen p k : Int) = 5 then runF p ap ar lim n (.lines c f L vs (endOpen p k)) s else runF p ap ar lim n (.lines c f L vs (k + 1)) s
    else if s.vis.length = lim then some (.stop 1, s)
    else onVal (runF p ap ar lim n (.eval c k L vs 0) ⟨s.out, s.vis ++ [c ++ [(k : Int)]]⟩) fun v _ s1 =>
      if lkZ p (k : Int) = 1 then runF p ap ar lim n (.lines c f L (vs.set (varIx L (nameAt p k)) v) (k + 1)) s1
      else if lkZ p (k : Int) = 2 then runF p ap ar lim n (.lines c f L vs (k + 1)) ⟨s1.out ++ [v], s1.vis⟩
      else if lkZ p (k : Int) = 6 then some (.ret v, s1)
      else if v ≠ 0 then runF p ap ar lim n (.lines c f L vs (k + 1)) s1
      else if lkZ p (k : Int) = 3 ∧ 0 ≤ elseZ p (k : Int) then runF p ap ar lim n (.lines c f L vs ((elseZ p (k : Int)).toNat + 1)) s1
      else runF p ap ar lim n (.lines c f L vs ((beZ p (k : Int)).toNat + 1)) s1
theorem onVal_mono {x x' : RunO} {f f' : Int → Nat → RunS → RunO} {z : RunRes × RunS} (hx : ∀ y, x = some y → x' = some y) (hf : ∀ v i s z, f v i s = some z → f' v i s = some z) (h : onVal x f = some z) : onVal x' f' = some z := by
  unfold onVal at h ⊢
  cases hxx : x with
  | none => rw [hxx] at h; cases h
  | some y =>
    rw [hxx] at h
    rw [hx y hxx]
    simp only [Option.bind_some] at h ⊢
    cases hy : y.1 <;> rw [hy] at h <;> first | exact hf _ _ _ _ h | exact h
theorem onVals_mono {x x' : RunO} {f f' : List Int → Nat → RunS → RunO} {z : RunRes × RunS} (hx : ∀ y, x = some y → x' = some y) (hf : ∀ v i s z, f v i s = some z → f' v i s = some z) (h : onVals x f = some z) : onVals x' f' = some z := by
  unfold onVals at h ⊢
  cases hxx : x with
  | none => rw [hxx] at h; cases h
  | some y =>
    rw [hxx] at h
    rw [hx y hxx]
    simp only [Option.bind_some] at h ⊢
    cases hy : y.1 <;> rw [hy] at h <;> first | exact hf _ _ _ _ h | exact h
theorem onRet_mono {x x' : RunO} {f f' : Int → RunS → RunO} {z : RunRes × RunS} (hx : ∀ y, x = some y → x' = some y) (hf : ∀ v s z, f v s = some z → f' v s = some z) (h : onRet x f = some z) : onRet x' f' = some z := by
  unfold onRet at h ⊢
  cases hxx : x with
  | none => rw [hxx] at h; cases h
  | some y =>
    rw [hxx] at h
    rw [hx y hxx]
    simp only [Option.bind_some] at h ⊢
    cases hy : y.1 <;> rw [hy] at h <;> first | exact hf _ _ _ h | exact h
theorem ite_mono {c : Prop} [Decidable c] {a b a' b' : RunO} {z : RunRes × RunS} (ha : a = some z → a' = some z) (hb : b = some z → b' = some z) (h : (if c then a else b) = some z) : (if c then a' else b') = some z := by
  by_cases hc : c
  · rw [if_pos hc] at h ⊢; exact ha h
  · rw [if_neg hc] at h ⊢; exact hb h
/-- More steps come to the same. -/
theorem runF_succ (p : List PLine) (ap : Int → Int → Int → Int) (ar : TokL → Nat) (lim : Nat) : ∀ (n : Nat) (j : Job) (s : RunS) (z : RunRes × RunS), runF p ap ar lim n j s = some z → runF p ap ar lim (n + 1) j s = some z := by
  intro n
  induction n with
  | zero => intro j s z h; cases j <;> simp [runF] at h
  | succ n ih =>
    intro j s z h
    cases j with
    | args c k L vs i m =>
      cases m with
      | zero => simpa [runF] using h
      | succ m =>
        rw [runF] at h ⊢
        exact onVal_mono (fun y => ih _ _ y) (fun v i s z => onVals_mono (fun y => ih _ _ y) (fun _ _ _ _ h => h)) h
    | eval c k L vs i =>
      rw [runF] at h ⊢
      refine onVals_mono (fun y => ih _ _ y) (fun ws i1 s1 z => ?_) h
      exact ite_mono id (ite_mono id (ite_mono (ite_mono id (onRet_mono (fun y => ih _ _ y) (fun _ _ _ h => h))) id))
    | lines c f L vs k =>
      rw [runF] at h ⊢
      refine ite_mono id (ite_mono (ih _ _ _) (ite_mono (ite_mono (ih _ _ _) (ih _ _ _)) (ite_mono id (onVal_mono (fun y => ih _ _ y) (fun v _ s1 z => ?_))))) h
      exact ite_mono (ih _ _ _) (ite_mono (ih _ _ _) (ite_mono id (ite_mono (ih _ _ _) (ite_mono (ih _ _ _) (ih _ _ _)))))
theorem runF_le (p : List PLine) (ap : Int → Int → Int → Int) (ar : TokL → Nat) (lim n m : Nat) (h : n ≤ m) (j : Job) (s : RunS) (z : RunRes × RunS) (hz : runF p ap ar lim n j s = some z) : runF p ap ar lim m j s = some z := by
  induction h with
  | refl => exact hz
  | step _ ih => exact runF_succ p ap ar lim _ j s z ih
/-- A job comes to this. -/
def RunTo (p : List PLine) (ap : Int → Int → Int → Int) (ar : TokL → Nat) (lim : Nat) (j : Job) (s : RunS) (r : RunRes) (s' : RunS) : Prop := ∃ n, runF p ap ar lim n j s = some (r, s')
/-- And to nothing else. -/
theorem RunTo.one {p : List PLine} {ap : Int → Int → Int → Int} {ar : TokL → Nat} {lim : Nat} {j : Job} {s s1 s2 : RunS} {r1 r2 : RunRes} (h1 : RunTo p ap ar lim j s r1 s1) (h2 : RunTo p ap ar lim j s r2 s2) : r1 = r2 ∧ s1 = s2 := by
  obtain ⟨n, hn⟩ := h1
  obtain ⟨m, hm⟩ := h2
  have e1 := runF_le p ap ar lim n (n + m) (by omega) j s _ hn
  have e2 := runF_le p ap ar lim m (n + m) (by omega) j s _ hm
  rw [e1] at e2
  injection e2 with e2
  injection e2 with e3 e4
  exact ⟨e3, e4⟩
end Go.Proofs.Ytfemkbdgbpgjgaa
