/- Runs of programs, plain: what is put out and visited only grows, up to the limit; a run with a smaller limit is the beginning of one with a greater limit. Nothing of the program. -/
import Derived.Test.YtfemkbdgbpgjgaaRunPlain
namespace Go.Proofs.Ytfemkbdgbpgjgaa
open Go.RowKit Go.Lib

/-- From s on, things have been added; not more visits than lim, and exactly lim where the run was ended for them. -/
def Grown1 (lim : Nat) (s : RunS) (x : RunO) : Prop := ∀ z, x = some z → s.vis <+: z.2.vis ∧ s.out <+: z.2.out ∧ (s.vis.length ≤ lim → z.2.vis.length ≤ lim) ∧ (z.1 = .stop 1 → z.2.vis.length = lim)
theorem Grown1.none {lim : Nat} {s : RunS} : Grown1 lim s none := fun z h => by cases h
theorem Grown1.same {lim : Nat} {s : RunS} {r : RunRes} (h : r = .stop 1 → s.vis.length = lim) : Grown1 lim s (some (r, s)) := fun z hz => by
  injection hz with hz
  subst hz
  exact ⟨List.prefix_refl _, List.prefix_refl _, id, h⟩
theorem Grown1.trans {lim : Nat} {s s' : RunS} {x : RunO} (h1 : s.vis <+: s'.vis) (h2 : s.out <+: s'.out) (h3 : s.vis.length ≤ lim → s'.vis.length ≤ lim) (h : Grown1 lim s' x) : Grown1 lim s x := fun z hz => by
  obtain ⟨a, b, c, d⟩ := h z hz
  exact ⟨h1.trans a, h2.trans b, fun h => c (h3 h), d⟩
theorem grown_onVal {lim : Nat} {s : RunS} {x : RunO} {f : Int → Nat → RunS → RunO} (hx : Grown1 lim s x) (hf : ∀ v i s', Grown1 lim s' (f v i s')) : Grown1 lim s (onVal x f) := fun z hz => by
  unfold onVal at hz
  cases hxx : x with
  | none => rw [hxx] at hz; cases hz
  | some y =>
    obtain ⟨a, b, c, d⟩ := hx y hxx
    rw [hxx] at hz
    simp only [Option.bind_some] at hz
    obtain ⟨r, s1⟩ := y
    cases r <;> simp only at hz
    case val v i => exact Grown1.trans a b c (hf v i s1) z hz
    all_goals
      injection hz with hz
      subst hz
      exact ⟨a, b, c, d⟩
theorem grown_onVals {lim : Nat} {s : RunS} {x : RunO} {f : List Int → Nat → RunS → RunO} (hx : Grown1 lim s x) (hf : ∀ v i s', Grown1 lim s' (f v i s')) : Grown1 lim s (onVals x f) := fun z hz => by
  unfold onVals at hz
  cases hxx : x with
  | none => rw [hxx] at hz; cases hz
  | some y =>
    obtain ⟨a, b, c, d⟩ := hx y hxx
    rw [hxx] at hz
    simp only [Option.bind_some] at hz
    obtain ⟨r, s1⟩ := y
    cases r <;> simp only at hz
    case vals v i => exact Grown1.trans a b c (hf v i s1) z hz
    all_goals
      injection hz with hz
      subst hz
      exact ⟨a, b, c, d⟩
theorem grown_onRet {lim : Nat} {s : RunS} {x : RunO} {f : Int → RunS → RunO} (hx : Grown1 lim s x) (hf : ∀ v s', Grown1 lim s' (f v s')) : Grown1 lim s (onRet x f) := fun z hz => by
  unfold onRet at hz
  cases hxx : x with
  | none => rw [hxx] at hz; cases hz
  | some y =>
    obtain ⟨a, b, c, d⟩ := hx y hxx
    rw [hxx] at hz
    simp only [Option.bind_some] at hz
    obtain ⟨r, s1⟩ := y
    cases r <;> simp only at hz
    case ret v => exact Grown1.trans a b c (hf v s1) z hz
    all_goals
      injection hz with hz
      subst hz
      exact ⟨a, b, c, d⟩
theorem grown_ite {lim : Nat} {s : RunS} {c : Prop} [Decidable c] {a b : RunO} (ha : c → Grown1 lim s a) (hb : ¬ c → Grown1 lim s b) : Grown1 lim s (if c then a else b) := by
  by_cases hc : c
  · rw [if_pos hc]; exact ha hc
  · rw [if_neg hc]; exact hb hc
theorem runF_grown (p : List PLine) (ap : Int → Int → Int → Int) (ar : TokL → Nat) (lim : Nat) : ∀ (n : Nat) (j : Job) (s : RunS), Grown1 lim s (runF p ap ar lim n j s) := by
  intro n
  induction n with
  | zero => intro j s; cases j <;> (simp only [runF]; exact Grown1.none)
  | succ n ih =>
    intro j s
    cases j with
    | args c k L vs i m =>
      cases m with
      | zero => rw [runF]; exact Grown1.same (fun h => by cases h)
      | succ m =>
        rw [runF]
        exact grown_onVal (ih _ _) fun v i s => grown_onVals (ih _ _) fun ws i s => Grown1.same (fun h => by cases h)
    | eval c k L vs i =>
      rw [runF]
      refine grown_onVals (ih _ _) fun ws i1 s1 => ?_
      refine grown_ite (fun _ => Grown1.same (fun h => by cases h)) fun _ => grown_ite (fun _ => Grown1.same (fun h => by cases h)) fun _ => grown_ite (fun _ => grown_ite (fun _ => Grown1.same (fun h => by cases h)) fun _ => ?_) fun _ => Grown1.same (fun h => by cases h)
      exact grown_onRet (ih _ _) fun v s2 => Grown1.same (fun h => by cases h)
    | lines c f L vs k =>
      rw [runF]
      refine grown_ite (fun _ => Grown1.same (fun h => by cases h)) fun _ => grown_ite (fun _ => ih _ _) fun _ => grown_ite (fun _ => grown_ite (fun _ => ih _ _) fun _ => ih _ _) fun _ => grown_ite (fun h => Grown1.same (fun _ => h)) fun hne => ?_
      refine Grown1.trans (s' := ⟨s.out, s.vis ++ [c ++ [(k : Int)]]⟩) (List.prefix_append _ _) (List.prefix_refl _) (fun h => by simp only [List.length_append, List.length_cons, List.length_nil]; omega) (grown_onVal (ih _ _) fun v _ s1 => ?_)
      exact grown_ite (fun _ => ih _ _) fun _ => grown_ite (fun _ => Grown1.trans (s' := ⟨s1.out ++ [v], s1.vis⟩) (List.prefix_refl _) (List.prefix_append _ _) id (ih _ _)) fun _ => grown_ite (fun _ => Grown1.same (fun h => by cases h)) fun _ => grown_ite (fun _ => ih _ _) fun _ => grown_ite (fun _ => ih _ _) fun _ => ih _ _
/-- The same, or the first one was ended for its visits, and is the beginning of the second one. -/
def Rel1 (x1 x2 : RunO) : Prop := ∀ y1 y2, x1 = some y1 → x2 = some y2 → y1 = y2 ∨ (y1.1 = .stop 1 ∧ y1.2.vis <+: y2.2.vis ∧ y1.2.out <+: y2.2.out)
theorem Rel1.same (x : RunO) : Rel1 x x := fun y1 y2 h1 h2 => .inl (by rw [h1] at h2; injection h2)
theorem rel_onVal {lim l1 : Nat} {x1 x2 : RunO} {f1 f2 : Int → Nat → RunS → RunO} (hx : Rel1 x1 x2) (hb : ∀ y, x1 = some y → y.2.vis.length ≤ l1) (hf : ∀ v i s, s.vis.length ≤ l1 → Rel1 (f1 v i s) (f2 v i s)) (hg : ∀ v i s, Grown1 lim s (f2 v i s)) : Rel1 (onVal x1 f1) (onVal x2 f2) := fun z1 z2 h1 h2 => by
  unfold onVal at h1 h2
  cases e1 : x1 with
  | none => rw [e1] at h1; cases h1
  | some y1 =>
    cases e2 : x2 with
    | none => rw [e2] at h2; cases h2
    | some y2 =>
      rw [e1] at h1
      rw [e2] at h2
      simp only [Option.bind_some] at h1 h2
      rcases hx y1 y2 e1 e2 with rfl | ⟨hs, hv, ho⟩
      · obtain ⟨r, s⟩ := y1
        cases r <;> simp only at h1 h2
        case val v i => exact hf v i s (hb _ e1) z1 z2 h1 h2
        all_goals exact .inl (by injection h1 with h1; injection h2 with h2; rw [← h1, ← h2])
      · obtain ⟨r, s⟩ := y1
        obtain ⟨r2, s2⟩ := y2
        dsimp only at hs hv ho
        subst hs
        simp only at h1
        injection h1 with h1
        subst h1
        refine .inr ⟨rfl, ?_⟩
        cases r2 <;> simp only at h2
        case val v i =>
          obtain ⟨a, b, _⟩ := hg v i s2 z2 h2
          exact ⟨hv.trans a, ho.trans b⟩
        all_goals
          injection h2 with h2
          subst h2
          exact ⟨hv, ho⟩
theorem rel_onVals {lim l1 : Nat} {x1 x2 : RunO} {f1 f2 : List Int → Nat → RunS → RunO} (hx : Rel1 x1 x2) (hb : ∀ y, x1 = some y → y.2.vis.length ≤ l1) (hf : ∀ v i s, s.vis.length ≤ l1 → Rel1 (f1 v i s) (f2 v i s)) (hg : ∀ v i s, Grown1 lim s (f2 v i s)) : Rel1 (onVals x1 f1) (onVals x2 f2) := fun z1 z2 h1 h2 => by
  unfold onVals at h1 h2
  cases e1 : x1 with
  | none => rw [e1] at h1; cases h1
  | some y1 =>
    cases e2 : x2 with
    | none => rw [e2] at h2; cases h2
    | some y2 =>
      rw [e1] at h1
      rw [e2] at h2
      simp only [Option.bind_some] at h1 h2
      rcases hx y1 y2 e1 e2 with rfl | ⟨hs, hv, ho⟩
      · obtain ⟨r, s⟩ := y1
        cases r <;> simp only at h1 h2
        case vals v i => exact hf v i s (hb _ e1) z1 z2 h1 h2
        all_goals exact .inl (by injection h1 with h1; injection h2 with h2; rw [← h1, ← h2])
      · obtain ⟨r, s⟩ := y1
        obtain ⟨r2, s2⟩ := y2
        dsimp only at hs hv ho
        subst hs
        simp only at h1
        injection h1 with h1
        subst h1
        refine .inr ⟨rfl, ?_⟩
        cases r2 <;> simp only at h2
        case vals v i =>
          obtain ⟨a, b, _⟩ := hg v i s2 z2 h2
          exact ⟨hv.trans a, ho.trans b⟩
        all_goals
          injection h2 with h2
          subst h2
          exact ⟨hv, ho⟩
theorem rel_onRet {lim l1 : Nat} {x1 x2 : RunO} {f1 f2 : Int → RunS → RunO} (hx : Rel1 x1 x2) (hb : ∀ y, x1 = some y → y.2.vis.length ≤ l1) (hf : ∀ v s, s.vis.length ≤ l1 → Rel1 (f1 v s) (f2 v s)) (hg : ∀ v s, Grown1 lim s (f2 v s)) : Rel1 (onRet x1 f1) (onRet x2 f2) := fun z1 z2 h1 h2 => by
  unfold onRet at h1 h2
  cases e1 : x1 with
  | none => rw [e1] at h1; cases h1
  | some y1 =>
    cases e2 : x2 with
    | none => rw [e2] at h2; cases h2
    | some y2 =>
      rw [e1] at h1
      rw [e2] at h2
      simp only [Option.bind_some] at h1 h2
      rcases hx y1 y2 e1 e2 with rfl | ⟨hs, hv, ho⟩
      · obtain ⟨r, s⟩ := y1
        cases r <;> simp only at h1 h2
        case ret v => exact hf v s (hb _ e1) z1 z2 h1 h2
        all_goals exact .inl (by injection h1 with h1; injection h2 with h2; rw [← h1, ← h2])
      · obtain ⟨r, s⟩ := y1
        obtain ⟨r2, s2⟩ := y2
        dsimp only at hs hv ho
        subst hs
        simp only at h1
        injection h1 with h1
        subst h1
        refine .inr ⟨rfl, ?_⟩
        cases r2 <;> simp only at h2
        case ret v =>
          obtain ⟨a, b, _⟩ := hg v s2 z2 h2
          exact ⟨hv.trans a, ho.trans b⟩
        all_goals
          injection h2 with h2
          subst h2
          exact ⟨hv, ho⟩
theorem rel_ite {c : Prop} [Decidable c] {a1 b1 a2 b2 : RunO} (ha : c → Rel1 a1 a2) (hb : ¬ c → Rel1 b1 b2) : Rel1 (if c then a1 else b1) (if c then a2 else b2) := by
  by_cases hc : c
  · rw [if_pos hc, if_pos hc]; exact ha hc
  · rw [if_neg hc, if_neg hc]; exact hb hc
theorem rel_ite' {c : Prop} [Decidable c] {lim : Nat} {s : RunS} {a1 b1 a2 b2 : RunO} (hg : Grown1 lim s (if c then a2 else b2)) (ha : c → Grown1 lim s a2 → Rel1 a1 a2) (hb : ¬ c → Grown1 lim s b2 → Rel1 b1 b2) : Rel1 (if c then a1 else b1) (if c then a2 else b2) := by
  by_cases hc : c
  · rw [if_pos hc] at hg; rw [if_pos hc, if_pos hc]; exact ha hc hg
  · rw [if_neg hc] at hg; rw [if_neg hc, if_neg hc]; exact hb hc hg
theorem runF_rel (p : List PLine) (ap : Int → Int → Int → Int) (ar : TokL → Nat) (l1 l2 : Nat) (hl : l1 ≤ l2) : ∀ (n : Nat) (j : Job) (s : RunS), s.vis.length ≤ l1 → Rel1 (runF p ap ar l1 n j s) (runF p ap ar l2 n j s) := by
  intro n
  induction n with
  | zero => intro j s _ y1 y2 h; cases j <;> simp [runF] at h
  | succ n ih =>
    have hG := fun j s => runF_grown p ap ar l2 n j s
    have hB : ∀ (j : Job) (s : RunS) (z : RunRes × RunS), s.vis.length ≤ l1 → runF p ap ar l1 n j s = some z → z.2.vis.length ≤ l1 := fun j s z hs h => (runF_grown p ap ar l1 n j s z h).2.2.1 hs
    have hgI : ∀ (c : Prop) [Decidable c] (s : RunS) (a b : RunO), Grown1 l2 s a → Grown1 l2 s b → Grown1 l2 s (if c then a else b) := fun c _ s a b ha hb => grown_ite (fun _ => ha) (fun _ => hb)
    have hR : ∀ (s : RunS) (r : RunRes), r ≠ .stop 1 → Grown1 l2 s (some (r, s)) := fun s r h => Grown1.same (fun e => absurd e h)
    intro j s hs
    cases j with
    | args c k L vs i m =>
      cases m with
      | zero => rw [runF, runF]; exact Rel1.same _
      | succ m =>
        rw [runF, runF]
        refine rel_onVal (lim := l2) (l1 := l1) (ih _ _ hs) (fun y => hB _ _ y hs) (fun v i1 s1 hs1 => ?_) (fun v i1 s1 => ?_)
        · exact rel_onVals (lim := l2) (l1 := l1) (ih _ _ hs1) (fun y => hB _ _ y hs1) (fun ws i2 s2 _ => Rel1.same _) (fun ws i2 s2 => hR _ _ (by intro h; cases h))
        · exact grown_onVals (hG _ _) fun ws i2 s2 => hR _ _ (by intro h; cases h)
    | eval c k L vs i =>
      rw [runF, runF]
      refine rel_onVals (lim := l2) (l1 := l1) (ih _ _ hs) (fun y => hB _ _ y hs) (fun ws i1 s1 hs1 => ?_) (fun ws i1 s1 => ?_)
      · refine rel_ite (fun _ => Rel1.same _) fun _ => rel_ite (fun _ => Rel1.same _) fun _ => rel_ite (fun _ => rel_ite (fun _ => Rel1.same _) fun _ => ?_) fun _ => Rel1.same _
        exact rel_onRet (lim := l2) (l1 := l1) (ih _ _ hs1) (fun y => hB _ _ y hs1) (fun v s2 _ => Rel1.same _) (fun v s2 => hR _ _ (by intro h; cases h))
      · refine hgI _ _ _ _ (hR _ _ (by intro h; cases h)) (hgI _ _ _ _ (hR _ _ (by intro h; cases h)) (hgI _ _ _ _ (hgI _ _ _ _ (hR _ _ (by intro h; injection h with h; exact absurd h (by decide))) ?_) (hR _ _ (by intro h; cases h))))
        exact grown_onRet (hG _ _) fun v s2 => hR _ _ (by intro h; cases h)
    | lines c f L vs k =>
      have hgrow := runF_grown p ap ar l2 (n + 1) (.lines c f L vs k) s
      rw [runF] at hgrow
      rw [runF, runF]
      refine rel_ite' hgrow (fun _ _ => Rel1.same _) fun _ hgrow => rel_ite' hgrow (fun _ _ => ih _ _ hs) fun _ hgrow => rel_ite' hgrow (fun _ hgrow => rel_ite' hgrow (fun _ _ => ih _ _ hs) fun _ _ => ih _ _ hs) fun _ hgrow => ?_
      by_cases h1 : s.vis.length = l1
      · rw [if_pos h1]
        intro y1 y2 e1 e2
        injection e1 with e1
        subst e1
        obtain ⟨a, b, _⟩ := hgrow y2 e2
        exact .inr ⟨rfl, a, b⟩
      · rw [if_neg h1, if_neg (by omega)]
        have hs' : (s.vis ++ [c ++ [(k : Int)]]).length ≤ l1 := by simp only [List.length_append, List.length_cons, List.length_nil]; omega
        refine rel_onVal (lim := l2) (l1 := l1) (ih _ _ hs') (fun y => hB _ ⟨s.out, s.vis ++ [c ++ [(k : Int)]]⟩ y hs') (fun v _ s1 hs1 => ?_) (fun v _ s1 => ?_)
        · exact rel_ite (fun _ => ih _ _ hs1) fun _ => rel_ite (fun _ => ih _ ⟨s1.out ++ [v], s1.vis⟩ hs1) fun _ => rel_ite (fun _ => Rel1.same _) fun _ => rel_ite (fun _ => ih _ _ hs1) fun _ => rel_ite (fun _ => ih _ _ hs1) fun _ => ih _ _ hs1
        · exact hgI _ _ _ _ (hG _ _) (hgI _ _ _ _ (Grown1.trans (s' := ⟨s1.out ++ [v], s1.vis⟩) (List.prefix_refl _) (List.prefix_append _ _) id (hG _ _)) (hgI _ _ _ _ (hR _ _ (by intro h; cases h)) (hgI _ _ _ _ (hG _ _) (hgI _ _ _ _ (hG _ _) (hG _ _)))))
/-- A run with a smaller limit is the beginning of one with a greater limit, or the same. -/
theorem run_limits {p : List PLine} {ap : Int → Int → Int → Int} {ar : TokL → Nat} {l1 l2 : Nat} (hl : l1 ≤ l2) {j : Job} {s s1 s2 : RunS} {r1 r2 : RunRes} (hs : s.vis.length ≤ l1) (h1 : RunTo p ap ar l1 j s r1 s1) (h2 : RunTo p ap ar l2 j s r2 s2) :
    (r1 = r2 ∧ s1 = s2) ∨ (r1 = .stop 1 ∧ s1.vis.length = l1 ∧ s1.vis <+: s2.vis ∧ s1.out <+: s2.out) := by
  obtain ⟨n, hn⟩ := h1
  obtain ⟨m, hm⟩ := h2
  have e1 := runF_le p ap ar l1 n (n + m) (by omega) j s _ hn
  have e2 := runF_le p ap ar l2 m (n + m) (by omega) j s _ hm
  have hg := runF_grown p ap ar l1 (n + m) j s _ e1
  rcases runF_rel p ap ar l1 l2 hl (n + m) j s hs _ _ e1 e2 with h | ⟨a, b, c⟩
  · injection h with h3 h4
    exact .inl ⟨h3, h4⟩
  · exact .inr ⟨a, hg.2.2.2 a, b, c⟩
end Go.Proofs.Ytfemkbdgbpgjgaa
