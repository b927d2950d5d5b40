/- Runs of programs, plain: every visit begins in main and goes from call to call. Nothing of the program. -/
import Derived.Test.YtfemkbdgbpgjgaaRunPlain
import Derived.Test.YtfemkbdgbpgjgaaBlkPlain
namespace Go.Proofs.Ytfemkbdgbpgjgaa
open Go.RowKit Go.Lib

/-- The lines of calls under way, and the function that they lead to. -/
inductive Chain (p : List PLine) : List Int → Nat → Prop
  | main : Chain p [] 0
  | call {c : List Int} {f f' k : Nat} {t : TokL} (h : Chain p c f) (h1 : f < k) (h2 : (k : Int) < beZ p (f : Int)) (hl : k < p.length) (ht : t ∈ p[k].expr) (h7 : t.kind = 7) (hf : findZ p t.name = (f' : Int)) : Chain p (c ++ [(k : Int)]) f'
/-- A visit's shape. -/
def ShapeV (p : List PLine) (v : List Int) : Prop := ∃ (c : List Int) (f k : Nat), v = c ++ [(k : Int)] ∧ Chain p c f ∧ c.length ≤ 6 ∧ f < k ∧ (k : Int) < beZ p (f : Int)
def AllSh (p : List PLine) (s : RunS) : Prop := ∀ v ∈ s.vis, ShapeV p v
def Sh (p : List PLine) (x : RunO) : Prop := ∀ z, x = some z → AllSh p z.2
def Good (p : List PLine) : Job → Prop
  | .eval c k _ _ _ => ∃ f, Chain p c f ∧ c.length ≤ 6 ∧ f < k ∧ (k : Int) < beZ p (f : Int)
  | .args c k _ _ _ _ => ∃ f, Chain p c f ∧ c.length ≤ 6 ∧ f < k ∧ (k : Int) < beZ p (f : Int)
  | .lines c f _ _ k => Chain p c f ∧ c.length ≤ 6 ∧ f < k
theorem sh_some {p : List PLine} {s : RunS} {r : RunRes} (h : AllSh p s) : Sh p (some (r, s)) := fun z hz => by
  injection hz with hz
  subst hz
  exact h
theorem sh_onVal {p : List PLine} {x : RunO} {f : Int → Nat → RunS → RunO} (hx : Sh p x) (hf : ∀ v i s, AllSh p s → Sh p (f v i s)) : Sh p (onVal x f) := fun z hz => by
  unfold onVal at hz
  cases hxx : x with
  | none => rw [hxx] at hz; cases hz
  | some y =>
    have h := hx y hxx
    rw [hxx] at hz
    simp only [Option.bind_some] at hz
    obtain ⟨r, s1⟩ := y
    cases r <;> simp only at hz
    case val v i => exact hf v i s1 h z hz
    all_goals
      injection hz with hz
      subst hz
      exact h
theorem sh_onVals {p : List PLine} {x : RunO} {f : List Int → Nat → RunS → RunO} (hx : Sh p x) (hf : ∀ v i s, AllSh p s → Sh p (f v i s)) : Sh p (onVals x f) := fun z hz => by
  unfold onVals at hz
  cases hxx : x with
  | none => rw [hxx] at hz; cases hz
  | some y =>
    have h := hx y hxx
    rw [hxx] at hz
    simp only [Option.bind_some] at hz
    obtain ⟨r, s1⟩ := y
    cases r <;> simp only at hz
    case vals v i => exact hf v i s1 h z hz
    all_goals
      injection hz with hz
      subst hz
      exact h
theorem sh_onRet {p : List PLine} {x : RunO} {f : Int → RunS → RunO} (hx : Sh p x) (hf : ∀ v s, AllSh p s → Sh p (f v s)) : Sh p (onRet x f) := fun z hz => by
  unfold onRet at hz
  cases hxx : x with
  | none => rw [hxx] at hz; cases hz
  | some y =>
    have h := hx y hxx
    rw [hxx] at hz
    simp only [Option.bind_some] at hz
    obtain ⟨r, s1⟩ := y
    cases r <;> simp only at hz
    case ret v => exact hf v s1 h z hz
    all_goals
      injection hz with hz
      subst hz
      exact h
theorem sh_ite {p : List PLine} {c : Prop} [Decidable c] {a b : RunO} (ha : c → Sh p a) (hb : ¬ c → Sh p b) : Sh p (if c then a else b) := by
  by_cases hc : c
  · rw [if_pos hc]; exact ha hc
  · rw [if_neg hc]; exact hb hc
theorem fun_in (p : List PLine) (k : Nat) (h : k < p.length) (h0 : p[k].kind = 0) : k ∈ funs p := by
  unfold funs
  rw [funs_mem p 0 k]
  exact ⟨h, Nat.zero_le _, h0⟩
theorem findF_fun (n : ByteArray) (l : List PLine) : ∀ i : Nat, findF n i l = -1 ∨ ∃ j, ∃ h : j < l.length, findF n i l = ((i + j : Nat) : Int) ∧ l[j].kind = 0 := by
  induction l with
  | nil => intro i; exact .inl rfl
  | cons x r ih =>
    intro i
    unfold findF
    by_cases hc : x.kind = 0 ∧ x.name = n
    · rw [if_pos hc]
      exact .inr ⟨0, by simp, by simp, hc.1⟩
    · rw [if_neg hc]
      rcases ih (i + 1) with h | ⟨j, hj, h1, h2⟩
      · exact .inl h
      · refine .inr ⟨j + 1, by simpa using hj, ?_, h2⟩
        rw [h1]
        congr 1
        omega
theorem findZ_fun (p : List PLine) (n : ByteArray) (f : Nat) (h : findZ p n = (f : Int)) : f ∈ funs p := by
  rcases findF_fun n p 0 with h' | ⟨j, hj, h1, h2⟩
  · unfold findZ at h; omega
  · unfold findZ at h
    have : f = j := by omega
    subst this
    exact fun_in p f hj h2
theorem Chain.fun {p : List PLine} (ho : OkI p) {c : List Int} {f : Nat} (h : Chain p c f) : f ∈ funs p := by
  cases h with
  | main =>
    obtain ⟨hl, hk, _⟩ := (find_zero p mainT).1 ho.2.1.2.1
    exact fun_in p 0 hl hk
  | call h h1 h2 hl ht h7 hf => exact findZ_fun p _ f hf
theorem tokAt_mem (p : List PLine) (k i : Nat) (h : k < p.length) (h7 : (tokAt p k i).kind = 7) : tokAt p k i ∈ p[k].expr := by
  unfold tokAt at h7 ⊢
  rw [List.getElem?_eq_getElem h] at h7 ⊢
  simp only at h7 ⊢
  cases hx : p[k].expr[i]? with
  | none => rw [hx] at h7; exact absurd h7 (by decide)
  | some t => exact List.mem_of_getElem? hx
/-- A line within a function. -/
theorem line_in {p : List PLine} (ho : OkI p) {f k : Nat} (hf : f ∈ funs p) (h1 : f < k) (h2 : (k : Int) < beZ p (f : Int)) (hl : k < p.length) : ∀ t ∈ p[k].expr, knownP p (locZ p (f : Int)) t := by
  have h := (ho.2.2.2.2.2 f hf).2
  refine h p[k] ?_
  unfold segZ
  rw [List.mem_iff_getElem?]
  refine ⟨k - f, ?_⟩
  rw [List.getElem?_take, if_pos (by omega), List.getElem?_drop, show f + (k - f) = k from by omega, List.getElem?_eq_getElem hl]
theorem findIdx_range (k : Nat) (q : Nat → Bool) : (List.range k).findIdx q = k ∨ ((List.range k).findIdx q < k ∧ q ((List.range k).findIdx q) = true) := by
  rcases Nat.lt_or_ge ((List.range k).findIdx q) (List.range k).length with h | h
  · refine .inr ⟨by simpa using h, ?_⟩
    have := List.findIdx_getElem (w := h)
    simpa using this
  · refine .inl ?_
    have h2 := List.findIdx_le_length (p := q) (xs := List.range k)
    rw [List.length_range] at h h2
    omega
theorem elses_at (p : List PLine) (l : List PLine) : ∀ i, elsesF p i l → ∀ j, ∀ h : j < l.length, l[j].kind = 4 → ∃ o : Nat, o < i + j ∧ elseZ p o = ((i + j : Nat) : Int) := by
  induction l with
  | nil => intro i _ j h; simp at h
  | cons x r ih =>
    intro i he j h h4
    cases j with
    | zero => exact he.1 h4
    | succ j =>
      obtain ⟨o, h1, h2⟩ := ih (i + 1) he.2 j (by simpa using h) h4
      exact ⟨o, by omega, by rw [h2]; congr 1; omega⟩
theorem run_shapes (p : List PLine) (ap : Int → Int → Int → Int) (ar : TokL → Nat) (lim : Nat) (ho : OkI p) : ∀ (n : Nat) (j : Job) (s : RunS), Good p j → AllSh p s → Sh p (runF p ap ar lim n j s) := by
  intro n
  induction n with
  | zero => intro j s _ _ z h; cases j <;> simp [runF] at h
  | succ n ih =>
    intro j s hg hs
    cases j with
    | args c k L vs i m =>
      cases m with
      | zero => rw [runF]; exact sh_some hs
      | succ m =>
        rw [runF]
        exact sh_onVal (ih _ _ hg hs) fun v i1 s1 h1 => sh_onVals (ih _ _ hg h1) fun ws i2 s2 h2 => sh_some h2
    | eval c k L vs i =>
      rw [runF]
      refine sh_onVals (ih _ _ hg hs) fun ws i1 s1 h1 => sh_ite (fun _ => sh_some h1) fun _ => sh_ite (fun _ => sh_some h1) fun _ => sh_ite (fun h7 => sh_ite (fun _ => sh_some h1) fun h6 => ?_) fun _ => sh_some h1
      obtain ⟨f, hc, hc6, hfk, hke⟩ := hg
      have hl : k < p.length := by have := (beZ_lt p (f : Int)).2; omega
      have ht := tokAt_mem p k i hl h7
      have hk := (line_in ho (hc.fun ho) hfk hke hl _ ht).2 h7
      obtain ⟨f', hf'⟩ := Int.eq_ofNat_of_zero_le hk.1
      refine sh_onRet (ih _ _ ?_ h1) fun v s2 h2 => sh_some h2
      rw [hf', Int.toNat_natCast]
      exact ⟨.call hc hfk hke hl ht h7 hf', by simp only [List.length_append, List.length_cons, List.length_nil]; omega, Nat.lt_succ_self _⟩
    | lines c f L vs k =>
      obtain ⟨hc, hc6, hfk⟩ := hg
      rw [runF]
      refine sh_ite (fun _ => sh_some hs) fun he => ?_
      have hke : (k : Int) < beZ p (f : Int) := by omega
      have hl : k < p.length := by have := (beZ_lt p (f : Int)).2; omega
      have h0 : 0 ≤ beZ p (f : Int) := by omega
      refine sh_ite (fun h4 => ?_) fun h4 => sh_ite (fun h7 => sh_ite (fun h5 => ?_) fun _ => ih _ _ ⟨hc, hc6, by omega⟩ hs) fun h7 => sh_ite (fun _ => sh_some hs) fun _ => ?_
      · refine ih _ _ ⟨hc, hc6, ?_⟩ hs
        rw [lkZ_at p k hl] at h4
        obtain ⟨o, ho1, ho2⟩ := elses_at p p 0 ho.2.2.2.2.1 k hl h4
        rw [Nat.zero_add] at ho1 ho2
        rcases findIdx_range k (fun (i : Nat) => decide (elseZ p (i : Int) = (k : Int))) with h | ⟨h, h'⟩
        · exfalso
          have := List.findIdx_eq_length.1 (show (List.range k).findIdx (fun (i : Nat) => decide (elseZ p (i : Int) = (k : Int))) = (List.range k).length by rw [h, List.length_range]) o (by simpa using ho1)
          simp only [decide_eq_false_iff_not] at this
          exact this ho2
        · have he2 := of_decide_eq_true h'
          have := (elseZ_gt p (elseOpen p k : Int) (by unfold elseOpen; omega)).2
          unfold elseOpen at this ⊢
          omega
      · refine ih _ _ ⟨hc, hc6, ?_⟩ hs
        rcases findIdx_range k (fun (i : Nat) => decide (beZ p (i : Int) = (k : Int))) with h | ⟨h, h'⟩
        · exfalso
          unfold endOpen at h5
          rw [h, h7] at h5
          exact absurd h5 (by decide)
        · have he2 := of_decide_eq_true h'
          unfold endOpen
          generalize (List.range k).findIdx (fun (i : Nat) => decide (beZ p (i : Int) = (k : Int))) = o at *
          rcases Nat.lt_or_ge f o with h3 | h3
          · exact h3
          · exfalso
            rcases Nat.lt_or_ge o f with h8 | h8
            · have := beZ_apart p o f (by omega) h8 (by omega) h0
              omega
            · have : o = f := by omega
              subst this
              omega
      · have hsv : AllSh p ⟨s.out, s.vis ++ [c ++ [(k : Int)]]⟩ := fun v hv => by
          rcases List.mem_append.1 hv with hv | hv
          · exact hs v hv
          · rw [List.mem_singleton] at hv
            exact ⟨c, f, k, hv, hc, hc6, hfk, hke⟩
        have hop : isOp p[k].kind = true → (k : Int) < beZ p (k : Int) := fun h => (beZ_in p (f : Int) k h0 (by omega) hke hl h).1
        refine sh_onVal (ih _ _ ⟨f, hc, hc6, hfk, hke⟩ hsv) fun v i1 s1 h1 => ?_
        refine sh_ite (fun _ => ih _ _ ⟨hc, hc6, by omega⟩ h1) fun k1 => sh_ite (fun _ => ih _ _ ⟨hc, hc6, by omega⟩ h1) fun k2 => sh_ite (fun _ => sh_some h1) fun k6 => sh_ite (fun _ => ih _ _ ⟨hc, hc6, by omega⟩ h1) fun _ => sh_ite (fun h => ?_) fun _ => ?_
        · have := elseZ_gt p (k : Int) h.2
          exact ih _ _ ⟨hc, hc6, by omega⟩ h1
        · refine ih _ _ ⟨hc, hc6, ?_⟩ h1
          have hlb := ho.1.2 _ (List.getElem_mem hl)
          have hkd := line_kind _ hlb
          rw [lkZ_at p k hl] at h4 h7 k1 k2 k6
          by_cases hz : p[k].kind = 0
          · have := hop (by rw [hz]; rfl)
            omega
          · have := hop (by
              have : p[k].kind = 3 ∨ p[k].kind = 5 := by omega
              unfold isOp
              rcases this with h | h <;> rw [h] <;> rfl)
            omega
end Go.Proofs.Ytfemkbdgbpgjgaa
