/- Runs of programs, plain: how much is put out, how large values are, where expressions end, and which loops are around a line. Nothing of the program. -/
import Derived.Test.YtfemkbdgbpgjgaaRunTot
namespace Go.Proofs.Ytfemkbdgbpgjgaa
open Go.RowKit Go.Lib

def Pr (Q : RunRes → RunS → Prop) (x : RunO) : Prop := ∀ r s, x = some (r, s) → Q r s
theorem pr_none {Q : RunRes → RunS → Prop} : Pr Q none := fun r s h => by cases h
theorem pr_some {Q : RunRes → RunS → Prop} {r : RunRes} {s : RunS} (h : Q r s) : Pr Q (some (r, s)) := fun r' s' h' => by
  injection h' with h'
  injection h' with h1 h2
  subst h1 h2
  exact h
theorem pr_onVal {Q1 Q : RunRes → RunS → Prop} {x : RunO} {f : Int → Nat → RunS → RunO} (hx : Pr Q1 x) (hf : ∀ v i s, Q1 (.val v i) s → Pr Q (f v i s)) (hs : ∀ r s, Q1 r s → (∀ v i, r ≠ .val v i) → Q r s) : Pr Q (onVal x f) := fun r s h => by
  unfold onVal at h
  cases hxx : x with
  | none => rw [hxx] at h; cases h
  | some y =>
    obtain ⟨r1, s1⟩ := y
    have h1 := hx _ _ hxx
    rw [hxx] at h
    simp only [Option.bind_some] at h
    cases r1 <;> simp only at h
    case val v i => exact hf v i s1 h1 r s h
    all_goals
      injection h with h
      injection h with e1 e2
      subst e1 e2
      exact hs _ _ h1 (fun v i e => by cases e)
theorem pr_onVals {Q1 Q : RunRes → RunS → Prop} {x : RunO} {f : List Int → Nat → RunS → RunO} (hx : Pr Q1 x) (hf : ∀ v i s, Q1 (.vals v i) s → Pr Q (f v i s)) (hs : ∀ r s, Q1 r s → (∀ v i, r ≠ .vals v i) → Q r s) : Pr Q (onVals x f) := fun r s h => by
  unfold onVals at h
  cases hxx : x with
  | none => rw [hxx] at h; cases h
  | some y =>
    obtain ⟨r1, s1⟩ := y
    have h1 := hx _ _ hxx
    rw [hxx] at h
    simp only [Option.bind_some] at h
    cases r1 <;> simp only at h
    case vals v i => exact hf v i s1 h1 r s h
    all_goals
      injection h with h
      injection h with e1 e2
      subst e1 e2
      exact hs _ _ h1 (fun v i e => by cases e)
theorem pr_onRet {Q1 Q : RunRes → RunS → Prop} {x : RunO} {f : Int → RunS → RunO} (hx : Pr Q1 x) (hf : ∀ v s, Q1 (.ret v) s → Pr Q (f v s)) (hs : ∀ r s, Q1 r s → (∀ v, r ≠ .ret v) → Q r s) : Pr Q (onRet x f) := fun r s h => by
  unfold onRet at h
  cases hxx : x with
  | none => rw [hxx] at h; cases h
  | some y =>
    obtain ⟨r1, s1⟩ := y
    have h1 := hx _ _ hxx
    rw [hxx] at h
    simp only [Option.bind_some] at h
    cases r1 <;> simp only at h
    case ret v => exact hf v s1 h1 r s h
    all_goals
      injection h with h
      injection h with e1 e2
      subst e1 e2
      exact hs _ _ h1 (fun v e => by cases e)
theorem pr_ite {Q : RunRes → RunS → Prop} {c : Prop} [Decidable c] {a b : RunO} (ha : c → Pr Q a) (hb : ¬ c → Pr Q b) : Pr Q (if c then a else b) := by
  by_cases hc : c
  · rw [if_pos hc]; exact ha hc
  · rw [if_neg hc]; exact hb hc
theorem pr_mono {Q1 Q : RunRes → RunS → Prop} {x : RunO} (h : Pr Q1 x) (hq : ∀ r s, Q1 r s → Q r s) : Pr Q x := fun r s e => hq r s (h r s e)

/-- Not more is put out than lines are visited. -/
def Outs (s : RunS) (_ : RunRes) (s' : RunS) : Prop := s'.out.length + s.vis.length ≤ s.out.length + s'.vis.length
theorem run_outs (p : List PLine) (ap : Int → Int → Int → Int) (ar : TokL → Nat) (lim : Nat) : ∀ (n : Nat) (j : Job) (s : RunS), Pr (Outs s) (runF p ap ar lim n j s) := by
  intro n
  induction n with
  | zero => intro j s; cases j <;> (simp only [runF]; exact pr_none)
  | succ n ih =>
    have same : ∀ {r : RunRes} {s : RunS}, Outs s r s := fun {r s} => Nat.le_refl _
    have tr : ∀ {s s1 : RunS} {r1 : RunRes} {x : RunO}, Outs s r1 s1 → Pr (Outs s1) x → Pr (Outs s) x := fun {s s1 r1 x} h1 hx => pr_mono hx (fun r s' h => by unfold Outs at *; omega)
    intro j s
    cases j with
    | args c k L vs i m =>
      cases m with
      | zero => rw [runF]; exact pr_some same
      | succ m =>
        rw [runF]
        exact pr_onVal (ih _ s) (fun v i s1 h1 => tr h1 (pr_onVals (ih _ s1) (fun ws i2 s2 h2 => tr h2 (pr_some same)) (fun _ _ h _ => h))) (fun _ _ h _ => h)
    | eval c k L vs i =>
      rw [runF]
      refine pr_onVals (ih _ s) (fun ws i1 s1 h1 => ?_) (fun _ _ h _ => h)
      exact pr_ite (fun _ => tr h1 (pr_some same)) fun _ => pr_ite (fun _ => tr h1 (pr_some same)) fun _ => pr_ite (fun _ => pr_ite (fun _ => tr h1 (pr_some same)) fun _ => tr h1 (pr_onRet (ih _ s1) (fun v s2 h2 => tr h2 (pr_some same)) (fun _ _ h _ => h))) fun _ => tr h1 (pr_some same)
    | lines c f L vs k =>
      rw [runF]
      refine pr_ite (fun _ => pr_some same) fun _ => pr_ite (fun _ => ih _ s) fun _ => pr_ite (fun _ => pr_ite (fun _ => ih _ s) fun _ => ih _ s) fun _ => pr_ite (fun _ => pr_some same) fun _ => ?_
      have hv : ∀ {r : RunRes} {s1 : RunS}, Outs ⟨s.out, s.vis ++ [c ++ [(k : Int)]]⟩ r s1 → s1.out.length + s.vis.length + 1 ≤ s.out.length + s1.vis.length := fun {r s1} h => by
        unfold Outs at h
        simp only [List.length_append, List.length_cons, List.length_nil] at h
        omega
      refine pr_onVal (ih _ ⟨s.out, s.vis ++ [c ++ [(k : Int)]]⟩) (fun v i s1 h1 => ?_) (fun r s1 h _ => by have := hv h; unfold Outs; omega)
      have h1' := hv h1
      have go : ∀ j, Pr (Outs s) (runF p ap ar lim n j s1) := fun j => pr_mono (ih j s1) (fun r s' h => by unfold Outs at *; omega)
      refine pr_ite (fun _ => go _) fun _ => pr_ite (fun _ => pr_mono (ih _ ⟨s1.out ++ [v], s1.vis⟩) (fun r s' h => ?_)) fun _ => pr_ite (fun _ => pr_some (by unfold Outs; omega)) fun _ => pr_ite (fun _ => go _) fun _ => pr_ite (fun _ => go _) fun _ => go _
      unfold Outs at *
      simp only [List.length_append, List.length_cons, List.length_nil] at h
      omega

/-- Values of 32 bits. -/
def Sm (v : Int) : Prop := -2147483648 ≤ v ∧ v ≤ 2147483647
def SmV (l : List Int) : Prop := ∀ v ∈ l, Sm v
theorem sm_zero : Sm 0 := by unfold Sm; omega
theorem SmV.nil : SmV [] := fun v h => by cases h
theorem SmV.cons {v : Int} {l : List Int} (h : Sm v) (hl : SmV l) : SmV (v :: l) := fun x hx => by
  rcases List.mem_cons.1 hx with rfl | hx
  · exact h
  · exact hl x hx
theorem SmV.app {l m : List Int} (h : SmV l) (hm : SmV m) : SmV (l ++ m) := fun x hx => by
  rcases List.mem_append.1 hx with hx | hx
  · exact h x hx
  · exact hm x hx
theorem SmV.zeros (n : Nat) : SmV (List.replicate n 0) := fun x hx => by rw [(List.mem_replicate.1 hx).2]; exact sm_zero
theorem SmV.at {l : List Int} (h : SmV l) (i : Nat) : Sm ((l[i]?).getD 0) := by
  cases hx : l[i]? with
  | none => exact sm_zero
  | some v => exact h v (List.mem_of_getElem? hx)
theorem SmV.set {l : List Int} (h : SmV l) (i : Nat) {v : Int} (hv : Sm v) : SmV (l.set i v) := fun x hx => by
  rcases List.mem_or_eq_of_mem_set hx with hx | rfl
  · exact h x hx
  · exact hv
def JSm : Job → Prop
  | .eval _ _ _ vs _ => SmV vs
  | .args _ _ _ vs _ _ => SmV vs
  | .lines _ _ _ vs _ => SmV vs
def RSm : RunRes → RunS → Prop
  | .val v _, _ => Sm v
  | .vals vs _, _ => SmV vs
  | .ret v, _ => Sm v
  | .stop _, _ => True
theorem run_small {p : List PLine} {ap : Int → Int → Int → Int} {ar : TokL → Nat} {lim : Nat} (hap : ∀ k a b, Sm (ap k a b)) (htok : ∀ k i, (tokAt p k i).kind = 0 → Sm (tokAt p k i).num) : ∀ (n : Nat) (j : Job) (s : RunS), JSm j → Pr RSm (runF p ap ar lim n j s) := by
  intro n
  induction n with
  | zero => intro j s _; cases j <;> (simp only [runF]; exact pr_none)
  | succ n ih =>
    intro j s hj
    cases j with
    | args c k L vs i m =>
      cases m with
      | zero => rw [runF]; exact pr_some SmV.nil
      | succ m =>
        rw [runF]
        exact pr_onVal (ih _ s hj) (fun v i s1 h1 => pr_onVals (ih _ s1 hj) (fun ws i2 s2 h2 => pr_some (SmV.cons h1 h2)) (fun _ _ h _ => h)) (fun _ _ h _ => h)
    | eval c k L vs i =>
      rw [runF]
      refine pr_onVals (ih _ s hj) (fun ws i1 s1 h1 => ?_) (fun _ _ h _ => h)
      exact pr_ite (fun h0 => pr_some (htok k i h0)) fun _ => pr_ite (fun _ => pr_some (SmV.at hj _)) fun _ => pr_ite (fun _ => pr_ite (fun _ => pr_some trivial) fun _ => pr_onRet (ih _ s1 (SmV.app h1 (SmV.zeros _))) (fun v s2 h2 => pr_some h2) (fun _ _ h _ => h)) fun _ => pr_some (hap _ _ _)
    | lines c f L vs k =>
      rw [runF]
      refine pr_ite (fun _ => pr_some sm_zero) fun _ => pr_ite (fun _ => ih _ s hj) fun _ => pr_ite (fun _ => pr_ite (fun _ => ih _ s hj) fun _ => ih _ s hj) fun _ => pr_ite (fun _ => pr_some trivial) fun _ => ?_
      refine pr_onVal (ih _ _ hj) (fun v i s1 h1 => ?_) (fun r s1 h _ => h)
      exact pr_ite (fun _ => ih _ _ (SmV.set hj _ h1)) fun _ => pr_ite (fun _ => ih _ _ hj) fun _ => pr_ite (fun _ => pr_some h1) fun _ => pr_ite (fun _ => ih _ _ hj) fun _ => pr_ite (fun _ => ih _ _ hj) fun _ => ih _ _ hj

/-- The expression of line k. -/
def exprAt (p : List PLine) (k : Nat) : List TokL := match p[k]? with
  | none => []
  | some x => x.expr
theorem tokAt_getD (p : List PLine) (k i : Nat) : tokAt p k i = ((exprAt p k)[i]?).getD ⟨0, 0, ⟨#[]⟩⟩ := by
  unfold tokAt exprAt
  cases p[k]? with
  | none => simp
  | some x => rfl
theorem tokAt_get (p : List PLine) (k i : Nat) (h : i < (exprAt p k).length) : tokAt p k i = (exprAt p k)[i] := by
  rw [tokAt_getD, List.getElem?_eq_getElem h]
  rfl
theorem exprAt_get (p : List PLine) (k : Nat) (h : k < p.length) : exprAt p k = p[k].expr := by unfold exprAt; rw [List.getElem?_eq_getElem h]
/-- How many operands a token has. -/
def arN (t : TokL) : Nat := (arZ t).toNat
theorem arN_zero : arN ⟨0, 0, ⟨#[]⟩⟩ = 0 := by decide
def EndsAt (p : List PLine) : Job → RunRes → RunS → Prop
  | .eval _ k _ _ i, .val _ i1, _ => ∀ q, scanN ((exprAt p k).drop i) 1 = some q → i1 = i + q
  | .args _ k _ _ i m, .vals _ i2, _ => ∀ q, scanN ((exprAt p k).drop i) m = some q → i2 = i + q
  | _, _, _ => True
theorem scan_one (l : List TokL) (i q : Nat) (h : scanN (l.drop i) 1 = some q) : ∃ hi : i < l.length, tokB l[i] = true ∧ ∃ q', q = q' + 1 ∧ scanN (l.drop (i + 1)) (arN l[i]) = some q' := by
  by_cases hi : i < l.length
  · rw [List.drop_eq_getElem_cons hi, scanN] at h
    split at h
    · rename_i hb
      refine ⟨hi, hb, ?_⟩
      rw [Nat.zero_add] at h
      simp only [Option.map_eq_some_iff] at h
      obtain ⟨q', h1, h2⟩ := h
      exact ⟨q', h2.symm, h1⟩
    · cases h
  · rw [List.drop_eq_nil_of_le (by omega)] at h
    simp [scanN] at h
theorem scan_next (l : List TokL) (i m q : Nat) (h : scanN (l.drop i) (m + 1) = some q) : ∃ q1 q2, scanN (l.drop i) 1 = some q1 ∧ scanN (l.drop (i + q1)) m = some q2 ∧ q = q1 + q2 := by
  rw [Nat.add_comm, scan_add] at h
  cases h1 : scanN (l.drop i) 1 with
  | none => rw [h1] at h; cases h
  | some q1 =>
    rw [h1] at h
    simp only [Option.bind_some, Option.map_eq_some_iff, List.drop_drop] at h
    obtain ⟨q2, h2, h3⟩ := h
    exact ⟨q1, q2, rfl, h2, by omega⟩
theorem pr_and {Q1 Q2 : RunRes → RunS → Prop} {x : RunO} (h1 : Pr Q1 x) (h2 : Pr Q2 x) : Pr (fun r s => Q1 r s ∧ Q2 r s) x := fun r s h => ⟨h1 r s h, h2 r s h⟩
theorem pr_fits {p : List PLine} {ap : Int → Int → Int → Int} {ar : TokL → Nat} {lim n : Nat} (j : Job) (s : RunS) : Pr (fun r _ => Fits j r) (runF p ap ar lim n j s) := fun r s' h => run_fits p ap ar lim n j s r s' h
theorem run_ends {p : List PLine} {ap : Int → Int → Int → Int} {lim : Nat} : ∀ (n : Nat) (j : Job) (s : RunS), Pr (EndsAt p j) (runF p ap arN lim n j s) := by
  intro n
  induction n with
  | zero => intro j s; cases j <;> (simp only [runF]; exact pr_none)
  | succ n ih =>
    intro j s
    cases j with
    | lines c f L vs k => exact fun r s' _ => by cases r <;> trivial
    | args c k L vs i m =>
      cases m with
      | zero =>
        rw [runF]
        refine pr_some (fun q h => ?_)
        cases hd : (exprAt p k).drop i <;> rw [hd] at h <;> simp [scanN] at h <;> omega
      | succ m =>
        rw [runF]
        refine pr_onVal (pr_and (ih _ s) (pr_fits _ s)) (fun v i1 s1 h1 => pr_onVals (ih _ s1) (fun ws i2 s2 h2 => pr_some (fun q h => ?_)) (fun r s2 _ hr => ?_)) (fun r s2 h hr => ?_)
        · obtain ⟨q1, q2, h3, h4, h5⟩ := scan_next _ _ _ _ h
          have e1 := h1.1 q1 h3
          rw [← e1] at h4
          have e2 := h2 q2 h4
          omega
        · cases r <;> first | trivial | exact absurd rfl (hr _ _)
        · cases r with
          | vals ws i2 => exact h.2.elim
          | _ => trivial
    | eval c k L vs i =>
      rw [runF]
      refine pr_onVals (pr_and (ih _ s) (pr_fits _ s)) (fun ws i1 s1 h1 => ?_) (fun r s2 h hr => ?_)
      · have key : ∀ v s', EndsAt p (.eval c k L vs i) (.val v i1) s' := fun v s' q h => by
          obtain ⟨hi, hb, q', hq, h3⟩ := scan_one _ _ _ h
          rw [← tokAt_get p k i hi] at h3
          have := h1.1 q' h3
          omega
        exact pr_ite (fun _ => pr_some (key _ _)) fun _ => pr_ite (fun _ => pr_some (key _ _)) fun _ => pr_ite (fun _ => pr_ite (fun _ => pr_some trivial) fun _ => pr_onRet (pr_fits _ s1) (fun v s2 _ => pr_some (key _ _)) (fun r s2 h _ => by cases r <;> first | trivial | exact h.elim)) fun _ => pr_some (key _ _)
      · cases r <;> first | trivial | exact h.2.elim | exact absurd rfl (hr _ _)

/-- The while lines around line k of function f. -/
def isWh (p : List PLine) (f k w : Nat) : Bool := decide (f < w) && (decide (w < k) && (decide (lkZ p (w : Int) = 5) && decide ((k : Int) ≤ beZ p (w : Int))))
theorem isWh_iff (p : List PLine) (f k w : Nat) : isWh p f k w = true ↔ f < w ∧ w < k ∧ lkZ p (w : Int) = 5 ∧ (k : Int) ≤ beZ p (w : Int) := by
  unfold isWh
  simp only [Bool.and_eq_true, decide_eq_true_eq]
def encl (p : List PLine) (f k : Nat) : List Nat := (List.range p.length).filter (isWh p f k)
theorem filter_push (P Q : Nat → Bool) (k : Nat) : ∀ n, k < n → (∀ w, Q w = true ↔ (P w = true ∨ w = k)) → (∀ w, P w = true → w < k) → (List.range n).filter Q = (List.range n).filter P ++ [k] := by
  intro n
  induction n with
  | zero => intro h; omega
  | succ n ih =>
    intro hk hQ hP
    rw [List.range_succ, List.filter_append, List.filter_append]
    by_cases hn : n = k
    · subst hn
      have e1 : (List.range n).filter Q = (List.range n).filter P := List.filter_congr fun w hw => by
        have hw := List.mem_range.1 hw
        have := hQ w
        rw [Bool.eq_iff_iff, this]
        constructor
        · rintro (h | h)
          · exact h
          · omega
        · exact .inl
      have e2 : Q n = true := (hQ n).2 (.inr rfl)
      have e3 : P n = false := by
        cases h : P n with
        | false => rfl
        | true => have := hP n h; omega
      rw [e1]
      simp [e2, e3]
    · have e2 : Q n = false := by
        cases h : Q n with
        | false => rfl
        | true =>
          rcases (hQ n).1 h with h' | h'
          · have := hP n h'; omega
          · exact absurd h' hn
      have e3 : P n = false := by
        cases h : P n with
        | false => rfl
        | true => have := hP n h; omega
      rw [ih (by omega) hQ hP]
      simp [e2, e3]
theorem encl_len (p : List PLine) (f k : Nat) : (encl p f k).length ≤ p.length := by
  unfold encl
  have := List.length_filter_le (isWh p f k) (List.range p.length)
  rw [List.length_range] at this
  exact this
theorem encl_mem (p : List PLine) (f k w : Nat) (h : w ∈ encl p f k) : f < w ∧ w < k ∧ lkZ p (w : Int) = 5 ∧ (k : Int) ≤ beZ p (w : Int) := (isWh_iff p f k w).1 (List.mem_filter.1 h).2
theorem encl_same (p : List PLine) (f k k' : Nat) (h : ∀ w : Nat, f < w → lkZ p (w : Int) = 5 → ((w < k ∧ (k : Int) ≤ beZ p (w : Int)) ↔ (w < k' ∧ (k' : Int) ≤ beZ p (w : Int)))) : encl p f k' = encl p f k := by
  refine List.filter_congr fun w _ => ?_
  rw [Bool.eq_iff_iff, isWh_iff, isWh_iff]
  constructor
  · rintro ⟨a, b, c, d⟩
    have := (h w a c).2 ⟨b, d⟩
    exact ⟨a, this.1, c, this.2⟩
  · rintro ⟨a, b, c, d⟩
    have := (h w a c).1 ⟨b, d⟩
    exact ⟨a, this.1, c, this.2⟩
theorem encl_push (p : List PLine) (f k : Nat) (hk : k < p.length) (hf : f < k) (h5 : lkZ p (k : Int) = 5) (he : (k : Int) < beZ p (k : Int)) (k' : Nat) (h : ∀ w : Nat, f < w → lkZ p (w : Int) = 5 → ((w < k' ∧ (k' : Int) ≤ beZ p (w : Int)) ↔ ((w < k ∧ (k : Int) ≤ beZ p (w : Int)) ∨ w = k))) : encl p f k' = encl p f k ++ [k] := by
  refine filter_push _ _ k p.length hk (fun w => ?_) (fun w hw => ((isWh_iff p f k w).1 hw).2.1)
  rw [isWh_iff, isWh_iff]
  constructor
  · rintro ⟨a, b, c, d⟩
    rcases (h w a c).1 ⟨b, d⟩ with h' | h'
    · exact .inl ⟨a, h'.1, c, h'.2⟩
    · exact .inr h'
  · rintro (⟨a, b, c, d⟩ | rfl)
    · have := (h w a c).2 (.inl ⟨b, d⟩)
      exact ⟨a, this.1, c, this.2⟩
    · have := (h w hf h5).2 (.inr rfl)
      exact ⟨hf, this.1, h5, this.2⟩
theorem encl_first (p : List PLine) (f : Nat) : encl p f (f + 1) = [] := by
  unfold encl
  rw [List.filter_eq_nil_iff]
  intro w _ h
  have := (isWh_iff p f (f + 1) w).1 h
  omega
theorem end_is7 (p : List PLine) (l : List PLine) : ∀ (o : Int) (i : Nat), p.drop i = l → 1 ≤ o → 0 ≤ endF o i l → lkZ p (endF o i l) = 7 := by
  induction l with
  | nil => intro o i _ _ h; rw [endF] at h; omega
  | cons x r ih =>
    intro o i hd ho h
    have hl : i < p.length := by
      rcases Nat.lt_or_ge i p.length with h' | h'
      · exact h'
      · rw [List.drop_eq_nil_of_le h'] at hd; cases hd
    have hx := List.drop_eq_getElem_cons hl
    rw [hd] at hx
    injection hx with hx hr
    have hc := opn_cases x.kind
    rw [endF] at h ⊢
    by_cases h0 : o + opn x.kind = 0
    · rw [if_pos h0, lkZ_at p i hl, ← hx]
      omega
    · rw [if_neg h0] at h ⊢
      exact ih _ _ hr.symm (by omega) h
theorem beZ_7 (p : List PLine) (k : Int) (h : 0 ≤ beZ p k) : lkZ p (beZ p k) = 7 := by
  obtain ⟨j, rfl, hj, hop, _, _⟩ := beZ_is p k h
  rw [beZ_at p j hj hop] at h ⊢
  exact end_is7 p _ 1 (j + 1) rfl (by decide) h
/-- The else of an if stands on the if's level. -/
theorem elseF_level (p : List PLine) (k : Int) (hk0 : 0 ≤ beZ p k) : ∀ (f i : Nat) (w : Nat), k < (i : Int) → i ≤ w → (w : Int) < elseF p (beZ p k) f i → (lkZ p (w : Int) = 3 ∨ lkZ p (w : Int) = 5) → beZ p (w : Int) < elseF p (beZ p k) f i := by
  intro f
  induction f with
  | zero => intro i w _ _ h; rw [elseF] at h; omega
  | succ f ih =>
    intro i w hki hiw h hw
    rw [elseF] at h ⊢
    by_cases hi : beZ p k ≤ (i : Int)
    · rw [if_pos hi] at h; omega
    · rw [if_neg hi] at h ⊢
      have hl := (beZ_lt p k).2
      have hil : i < p.length := by omega
      by_cases h4 : lkZ p i = 4
      · rw [if_pos h4] at h; omega
      · rw [if_neg h4] at h ⊢
        by_cases h35 : lkZ p i = 3 ∨ lkZ p i = 5
        · rw [if_pos h35] at h ⊢
          have hop : isOp p[i].kind = true := by
            rw [lkZ_at p i hil] at h35
            unfold isOp
            rcases h35 with h | h <;> rw [h] <;> rfl
          have hb := beZ_in p k i hk0 hki (by omega) hil hop
          by_cases hwi : (beZ p (i : Int)).toNat + 1 ≤ w
          · exact ih _ w (by omega) hwi h hw
          · have hge : (((beZ p (i : Int)).toNat + 1 : Nat) : Int) ≤ elseF p (beZ p k) f ((beZ p (i : Int)).toNat + 1) := by
              rcases elseF_ge p k hk0 f ((beZ p (i : Int)).toNat + 1) (by omega) with h' | h' <;> omega
            by_cases e : w = i
            · subst e; omega
            · by_cases e2 : (w : Int) = beZ p (i : Int)
              · have := beZ_7 p (i : Int) (by omega)
                rw [← e2] at this
                omega
              · have hwl : w < p.length := by omega
                have := beZ_in p (i : Int) w (by omega) (by omega) (by omega) hwl (by
                  rw [lkZ_at p w hwl] at hw
                  unfold isOp
                  rcases hw with h | h <;> rw [h] <;> rfl)
                omega
        · rw [if_neg h35] at h ⊢
          by_cases e : w = i
          · subst e; exact absurd hw h35
          · exact ih _ w (by omega) (by omega) h hw
theorem else_level {p : List PLine} {k e w : Nat} (h : elseZ p (k : Int) = (e : Int)) (h1 : k < w) (h2 : w < e) (h5 : lkZ p (w : Int) = 3 ∨ lkZ p (w : Int) = 5) : beZ p (w : Int) < (e : Int) := by
  unfold elseZ at h
  split at h
  · rename_i hc
    rw [← h]
    rw [Int.toNat_natCast] at h ⊢
    exact elseF_level p (k : Int) hc.1 p.length (k + 1) w (by omega) (by omega) (by omega) h5
  · omega
theorem elseF_4 (p : List PLine) (e : Int) : ∀ (f i : Nat), 0 ≤ elseF p e f i → lkZ p (elseF p e f i) = 4 := by
  intro f
  induction f with
  | zero => intro i h; rw [elseF] at h; omega
  | succ f ih =>
    intro i h
    rw [elseF] at h ⊢
    split at h
    · omega
    · rename_i h1
      rw [if_neg h1]
      split at h
      · rename_i h4; rw [if_pos h4]; exact h4
      · rename_i h4
        rw [if_neg h4]
        split at h
        · rename_i h35; rw [if_pos h35]; exact ih _ h
        · rename_i h35; rw [if_neg h35]; exact ih _ h
theorem elseZ_4 {p : List PLine} {k e : Nat} (h : elseZ p (k : Int) = (e : Int)) : lkZ p (e : Int) = 4 := by
  unfold elseZ at h
  split at h
  · rw [← h]
    exact elseF_4 p _ _ _ (by omega)
  · omega
section
variable {p : List PLine} {f k : Nat}
theorem wh_len {w : Nat} (h5 : lkZ p (w : Int) = 5) : ∃ hl : w < p.length, isOp p[w].kind = true := by
  by_cases hl : w < p.length
  · rw [lkZ_at p w hl] at h5
    exact ⟨hl, by rw [h5]; rfl⟩
  · exfalso
    unfold lkZ at h5
    rw [if_neg (by omega), Int.toNat_natCast, List.getElem?_eq_none (by omega)] at h5
    simp at h5
/-- A block around a line that is no end ends behind each block that begins at or behind this line, within it. -/
theorem wh_in {w o : Nat} (h5 : lkZ p (w : Int) = 5) (hw : w < o) (ho : (o : Int) < beZ p (w : Int)) (hop : 0 ≤ beZ p (o : Int)) : beZ p (o : Int) < beZ p (w : Int) := beZ_apart p w o (by omega) hw ho hop
theorem wh_ne {w : Nat} (h7 : lkZ p (k : Int) ≠ 7) (h0 : 0 ≤ beZ p (w : Int)) : beZ p (w : Int) ≠ (k : Int) := fun e => h7 (by rw [← e]; exact beZ_7 p _ h0)
/-- Behind a line that is neither a while nor an end the same loops are open. -/
theorem encl_next (h7 : lkZ p (k : Int) ≠ 7) (h5 : lkZ p (k : Int) ≠ 5) : encl p f (k + 1) = encl p f k := encl_same p f k (k + 1) fun w _ hw => by
  constructor
  · rintro ⟨a, b⟩
    have := wh_ne (w := w) h7 (by omega)
    omega
  · rintro ⟨a, b⟩
    have : w ≠ k := fun e => h5 (by rw [← e]; exact hw)
    omega
theorem encl_loop (hl : k < p.length) (hf : f < k) (h5 : lkZ p (k : Int) = 5) (he : (k : Int) < beZ p (k : Int)) : encl p f (k + 1) = encl p f k ++ [k] := encl_push p f k hl hf h5 he (k + 1) fun w _ hw => by
  have h7 : lkZ p (k : Int) ≠ 7 := by rw [h5]; decide
  constructor
  · rintro ⟨a, b⟩
    have := wh_ne (w := w) h7 (by omega)
    omega
  · rintro (⟨a, b⟩ | rfl)
    · have := wh_ne (w := w) h7 (by omega)
      omega
    · omega
/-- Behind a block's end. -/
theorem encl_skip {o : Nat} (h7 : lkZ p (k : Int) ≠ 7) (ho : o ≤ k) (he : (k : Int) ≤ beZ p (o : Int)) (hop : 0 ≤ beZ p (o : Int)) (hin : ∀ w : Nat, o < w → w < k → lkZ p (w : Int) = 5 → beZ p (w : Int) < (k : Int)) (hno : o < k → lkZ p (o : Int) ≠ 5) : encl p f ((beZ p (o : Int)).toNat + 1) = encl p f k := encl_same p f k _ fun w _ hw => by
  have hgt := beZ_gt p (o : Int) hop
  constructor
  · rintro ⟨a, b⟩
    have h1 := wh_ne (w := w) h7 (by omega)
    rcases Nat.lt_trichotomy w o with h2 | h2 | h2
    · have := wh_in hw h2 (by omega) hop; omega
    · exact absurd (h2 ▸ hw) (hno (by omega))
    · have := hin w h2 a hw; omega
  · rintro ⟨a, b⟩
    refine ⟨?_, by omega⟩
    rcases Nat.lt_or_ge w k with h2 | h2
    · exact h2
    · exfalso
      by_cases e : w = o
      · subst e; omega
      · by_cases e2 : (w : Int) = beZ p (o : Int)
        · have := beZ_7 p (o : Int) hop
          rw [← e2, hw] at this
          exact absurd this (by decide)
        · have := beZ_apart p o w hop (by omega) (by omega) (by omega)
          omega
theorem encl_ask (h7 : lkZ p (k : Int) ≠ 7) (he : 0 ≤ beZ p (k : Int)) : encl p f ((beZ p (k : Int)).toNat + 1) = encl p f k :=
  encl_skip h7 (Nat.le_refl _) (by have := beZ_gt p (k : Int) he; omega) he (fun w h1 h2 => by omega) (fun h => by omega)
theorem encl_else {o : Nat} (h4 : lkZ p (k : Int) = 4) (ho : o < k) (he : elseZ p (o : Int) = (k : Int)) (hb : (k : Int) < beZ p (o : Int)) : encl p f ((beZ p (o : Int)).toNat + 1) = encl p f k :=
  encl_skip (by rw [h4]; decide) (by omega) (by omega) (by omega) (fun w h1 h2 h5 => else_level he h1 h2 (.inr h5)) (fun _ h => by
    unfold elseZ at he
    rw [if_neg (fun hc => by rw [h] at hc; exact absurd hc.2 (by decide))] at he
    omega)
/-- Behind the else of an if that is not taken. -/
theorem encl_other {e : Nat} (h3 : lkZ p (k : Int) = 3) (he : elseZ p (k : Int) = (e : Int)) (hb : 0 ≤ beZ p (k : Int)) : encl p f (e + 1) = encl p f k := encl_same p f k _ fun w _ hw => by
  have h7 : lkZ p (k : Int) ≠ 7 := by rw [h3]; decide
  have hg := elseZ_gt p (k : Int) (by omega)
  constructor
  · rintro ⟨a, b⟩
    have h1 := wh_ne (w := w) h7 (by omega)
    have := wh_in hw a (by omega) hb
    omega
  · rintro ⟨a, b⟩
    refine ⟨?_, by omega⟩
    rcases Nat.lt_trichotomy w k with h2 | h2 | h2
    · exact h2
    · rw [h2, h3] at hw; exact absurd hw (by decide)
    · exfalso
      by_cases e2 : w = e
      · have : elseZ p (k : Int) = (w : Int) := by rw [he, e2]
        have h4 := elseZ_4 this
        rw [hw] at h4
        exact absurd h4 (by decide)
      · have := else_level he h2 (by omega) (.inr hw); omega
/-- At the end of a while this while is the last loop. -/
theorem encl_back {o : Nat} (hf : f < o) (ho : o < k) (h5 : lkZ p (o : Int) = 5) (he : beZ p (o : Int) = (k : Int)) : encl p f k = encl p f o ++ [o] := by
  obtain ⟨hl, _⟩ := wh_len h5
  refine encl_push p f o hl hf h5 (by omega) k fun w _ hw => ?_
  have h7 : lkZ p (o : Int) ≠ 7 := by rw [h5]; decide
  constructor
  · rintro ⟨a, b⟩
    rcases Nat.lt_trichotomy w o with h2 | h2 | h2
    · exact .inl ⟨h2, by omega⟩
    · exact .inr h2
    · exfalso
      have := beZ_apart p o w (by omega) h2 (by omega) (by omega)
      omega
  · rintro (⟨a, b⟩ | rfl)
    · have h1 := wh_ne (w := w) h7 (by omega)
      have := wh_in hw a (by omega) (by omega)
      omega
    · omega
/-- A while that ends at line k is the one whose end line k is. -/
theorem end_one {w : Nat} (hw : w < k) (hb : beZ p (w : Int) = (k : Int)) : endOpen p k = w := by
  have hne : endOpen p k ≠ k := fun e => by
    have := List.findIdx_eq_length.1 (show (List.range k).findIdx (fun (i : Nat) => decide (beZ p (i : Int) = (k : Int))) = (List.range k).length by rw [List.length_range]; exact e) w (by simpa using hw)
    simp only [decide_eq_false_iff_not] at this
    exact this hb
  obtain ⟨h1, h2⟩ := end_open hne
  rcases Nat.lt_trichotomy (endOpen p k) w with h | h | h
  · have := beZ_apart p (endOpen p k) w (by omega) h (by omega) (by omega); omega
  · exact h
  · have := beZ_apart p w (endOpen p k) (by omega) h (by omega) (by omega); omega
/-- At another end no loop ends. -/
theorem encl_through (h7 : lkZ p (k : Int) = 7) (h5 : lkZ p (endOpen p k : Int) ≠ 5) : encl p f (k + 1) = encl p f k := encl_same p f k (k + 1) fun w _ hw => by
  constructor
  · rintro ⟨a, b⟩
    have : beZ p (w : Int) ≠ (k : Int) := fun e => h5 (by rw [end_one a e]; exact hw)
    omega
  · rintro ⟨a, b⟩
    have : w ≠ k := fun e => by rw [e, h7] at hw; exact absurd hw (by decide)
    omega
theorem encl_not (h5 : lkZ p (endOpen p k : Int) ≠ 5) : ∀ w ∈ encl p f k, beZ p (w : Int) ≠ (k : Int) := fun w hw e => by
  obtain ⟨_, h2, h3, _⟩ := encl_mem p f k w hw
  exact h5 (by rw [end_one h2 e]; exact h3)
end
end Go.Proofs.Ytfemkbdgbpgjgaa
