/- Plain facts on rules as bytes, and back. -/
import Derived.Test.YtfemkbdgbpgjgaaPackPlain
import Derived.Test.YtfemkbdgbpgjgaaRulFnA
namespace Go.Proofs.Ytfemkbdgbpgjgaa
open Go.RowKit Go.Lib

def ruN1 (e : Int) (x : RuL) : List Int := [x.start - e, x.stop - x.start, if x.frame = true then 1 else 0, x.depth]
/-- Four numbers for each rule, the first one counted from the end of the rule before. -/
def ruN : Int → List RuL → List Int
  | _, [] => []
  | e, x :: r => ruN1 e x ++ ruN x.stop r
def lastE : Int → List RuL → Int
  | e, [] => e
  | _, x :: r => lastE x.stop r
theorem ruN_snoc : ∀ (l : List RuL) (e : Int) (x : RuL), ruN e (l ++ [x]) = ruN e l ++ ruN1 (lastE e l) x := by
  intro l
  induction l with
  | nil => intro e x; simp [ruN, lastE]
  | cons y r ih => intro e x; simp only [List.cons_append, ruN, lastE]; rw [ih, List.append_assoc]
theorem lastE_snoc : ∀ (l : List RuL) (e : Int) (x : RuL), lastE e (l ++ [x]) = x.stop := by
  intro l
  induction l with
  | nil => intro e x; rfl
  | cons y r ih => intro e x; simp only [List.cons_append, lastE]; exact ih _ _
theorem ruN_length : ∀ (l : List RuL) (e : Int), (ruN e l).length = 4 * l.length := by
  intro l
  induction l with
  | nil => intro e; rfl
  | cons y r ih => intro e; simp only [ruN, List.length_append, List.length_cons]; rw [ih]; show 4 + _ = _; omega
theorem ruN_take (l : List RuL) (e : Int) (k : Nat) (h : k < l.length) : ruN e (l.take (k + 1)) = ruN e (l.take k) ++ ruN1 (lastE e (l.take k)) l[k] := by
  rw [List.take_succ_eq_append_getElem h, ruN_snoc]
theorem lastE_take (l : List RuL) (e : Int) (k : Nat) (h : k < l.length) : lastE e (l.take (k + 1)) = l[k].stop := by
  rw [List.take_succ_eq_append_getElem h, lastE_snoc]
theorem ruB_is {e : Int} {x : RuL} (h : ruB e x = true) : e ≤ x.start ∧ x.start < x.stop ∧ x.stop ≤ 1000000 ∧ 0 ≤ x.depth ∧ x.depth ≤ 1200 := by
  unfold ruB at h
  simp only [Bool.and_eq_true, decide_eq_true_eq] at h
  obtain ⟨h1, h2, h3, ⟨h4, h5⟩, _⟩ := h
  exact ⟨h1, h2, h3, h4, h5⟩
theorem ruF_cons {e : Int} {x : RuL} {r : List RuL} (h : ruF e (x :: r) = true) : ruB e x = true ∧ ruF x.stop r = true := by
  unfold ruF at h
  simpa only [Bool.and_eq_true] using h
theorem ruF_many : ∀ (l : List RuL) (e : Int), e ≤ 1000000 → ruF e l = true → e + l.length ≤ 1000000 := by
  intro l
  induction l with
  | nil => intro e he _; simpa using he
  | cons x r ih =>
    intro e he h
    obtain ⟨h1, h2⟩ := ruF_cons h
    have hb := ruB_is h1
    have := ih x.stop hb.2.2.1 h2
    simp only [List.length_cons]
    omega
/-- In rules that are valid a rule begins where the one before ends, or later. -/
theorem ruF_get : ∀ (l : List RuL) (e : Int) (k : Nat) (h : k < l.length), ruF e l = true → ruB (lastE e (l.take k)) l[k] = true := by
  intro l
  induction l with
  | nil => intro e k h; simp at h
  | cons x r ih =>
    intro e k h hf
    obtain ⟨h1, h2⟩ := ruF_cons hf
    cases k with
    | zero => exact h1
    | succ k =>
      simp only [List.take_succ_cons, lastE, List.getElem_cons_succ]
      exact ih x.stop k (by simpa using h) h2
theorem lastE_bd (l : List RuL) (k : Nat) (h : ruF 0 l = true) (hk : k ≤ l.length) : 0 ≤ lastE 0 (l.take k) ∧ lastE 0 (l.take k) ≤ 1000000 := by
  cases k with
  | zero => simp [lastE]
  | succ k =>
    have hk' : k < l.length := by omega
    rw [lastE_take l 0 k hk']
    have hb := ruB_is (ruF_get l 0 k hk' h)
    have := (lastE_bd l k h (by omega)).1
    omega
theorem ruN_ok : ∀ (l : List RuL) (e : Int), 0 ≤ e → ruF e l = true → okPk (ruN e l) = true := by
  intro l
  induction l with
  | nil => intro e _ _; rfl
  | cons x r ih =>
    intro e he h
    obtain ⟨h1, h2⟩ := ruF_cons h
    have hb := ruB_is h1
    have hr := ih x.stop (by omega) h2
    have g : ∀ a : Int, 0 ≤ a → a ≤ 1000000 → decide (0 ≤ sglZ a) = true := fun a h0 h1 => by
      unfold sglZ
      rw [if_neg (by omega), if_pos h0]
      simp
      omega
    unfold okPk at hr ⊢
    simp only [ruN, ruN1, List.all_append, List.all_cons, List.all_nil, hr, Bool.and_true, Bool.and_eq_true]
    refine ⟨g _ (by omega) (by omega), g _ (by omega) (by omega), ?_, g _ (by omega) (by omega)⟩
    cases x.frame
    · exact g _ (by simp) (by simp)
    · exact g _ (by simp) (by simp)
/-- What EncodeRules returns. -/
def erZ (l : List RuL) : List UInt8 := if ruF 0 l = true then pkZ (ruN 0 l) else []
theorem erZ_yes (l : List RuL) (h : ruF 0 l = true) : erZ l = pkZ (ruN 0 l) := by unfold erZ; rw [if_pos h]
theorem erZ_no (l : List RuL) (h : ruF 0 l = false) : erZ l = [] := by unfold erZ; rw [if_neg (by rw [h]; simp)]
theorem ruN_len (l : List RuL) (h : ruF 0 l = true) : (ruN 0 l).length ≤ 4000000 := by
  rw [ruN_length]
  have := ruF_many l 0 (by omega) h
  omega

/-- Rules out of numbers, four each. -/
def rdN : Int → List Int → List RuL
  | e, a :: b :: c :: d :: r => ⟨e + a, e + a + b, decide (c = 1), d⟩ :: rdN (e + a + b) r
  | _, _ => []
theorem rdN_ruN : ∀ (l : List RuL) (e : Int), rdN e (ruN e l) = l := by
  intro l
  induction l with
  | nil => intro e; rfl
  | cons x r ih =>
    intro e
    obtain ⟨st, sp, fr, de⟩ := x
    show (⟨e + (st - e), e + (st - e) + (sp - st), decide ((if fr = true then (1 : Int) else 0) = 1), de⟩ : RuL) :: rdN (e + (st - e) + (sp - st)) (ruN sp r) = _
    have e1 : e + (st - e) = st := by omega
    have e2 : st + (sp - st) = sp := by omega
    rw [e1, e2, ih]
    cases fr <;> simp
theorem rdN_snoc : ∀ (k : Nat) (n : List Int) (e a b c d : Int), n.length = 4 * k → rdN e (n ++ [a, b, c, d]) = rdN e n ++ [⟨lastE e (rdN e n) + a, lastE e (rdN e n) + a + b, decide (c = 1), d⟩] := by
  intro k
  induction k with
  | zero =>
    intro n e a b c d h
    obtain rfl : n = [] := List.length_eq_zero_iff.1 (by omega)
    simp [rdN, lastE]
  | succ k ih =>
    intro n e a b c d h
    match n, h with
    | x :: y :: z :: u :: r, h =>
      simp only [List.cons_append, rdN, lastE]
      rw [ih r _ a b c d (by simp only [List.length_cons] at h; omega)]
theorem rdN_take (n : List Int) (k : Nat) (h : 4 * k + 4 ≤ n.length) :
    rdN 0 (n.take (4 * (k + 1))) = rdN 0 (n.take (4 * k)) ++ [⟨lastE 0 (rdN 0 (n.take (4 * k))) + n[4 * k], lastE 0 (rdN 0 (n.take (4 * k))) + n[4 * k] + n[4 * k + 1], decide (n[4 * k + 2] = 1), n[4 * k + 3]⟩] := by
  have e : n.take (4 * (k + 1)) = n.take (4 * k) ++ [n[4 * k], n[4 * k + 1], n[4 * k + 2], n[4 * k + 3]] := by
    rw [show 4 * (k + 1) = 4 * k + 1 + 1 + 1 + 1 from by omega, List.take_succ_eq_append_getElem (by omega), List.take_succ_eq_append_getElem (by omega), List.take_succ_eq_append_getElem (by omega), List.take_succ_eq_append_getElem (by omega)]
    simp only [List.append_assoc, List.cons_append, List.nil_append]
  rw [e, rdN_snoc k _ 0 _ _ _ _ (by rw [List.length_take]; omega)]
theorem rdN_length : ∀ (k : Nat) (n : List Int) (e : Int), n.length = 4 * k → (rdN e n).length = k := by
  intro k
  induction k with
  | zero => intro n e h; obtain rfl : n = [] := List.length_eq_zero_iff.1 (by omega); rfl
  | succ k ih =>
    intro n e h
    match n, h with
    | x :: y :: z :: u :: r, h =>
      simp only [rdN, List.length_cons] at h ⊢
      rw [ih r _ (by omega)]
/-- What DecodeRules finds. -/
def drZ (s : List UInt8) : List RuL × Bool :=
  if (unZ s 0).1.length % 4 = 0 ∧ erZ (rdN 0 (unZ s 0).1) = s then (rdN 0 (unZ s 0).1, true) else ([], false)
theorem drZ_odd (s : List UInt8) (h : (unZ s 0).1.length % 4 ≠ 0) : drZ s = ([], false) := by unfold drZ; rw [if_neg (fun k => h k.1)]
theorem drZ_ne (s : List UInt8) (h : erZ (rdN 0 (unZ s 0).1) ≠ s) : drZ s = ([], false) := by unfold drZ; rw [if_neg (fun k => h k.2)]
theorem drZ_eq (s : List UInt8) (h4 : (unZ s 0).1.length % 4 = 0) (h : erZ (rdN 0 (unZ s 0).1) = s) : drZ s = (rdN 0 (unZ s 0).1, true) := by unfold drZ; rw [if_pos ⟨h4, h⟩]
/-- Bytes of rules hold nothing else. -/
theorem drZ_whole (s : List UInt8) (R : List RuL) (h : erZ R = s) (hR : ruF 0 R = true) : unZ s 0 = (ruN 0 R, s.length, true) := by
  rw [erZ_yes R hR] at h
  have := unZ_pk [] [] (ruN 0 R) (ruN_ok R 0 (by omega) hR) (by have := ruN_len R hR; omega)
  simp only [List.nil_append, List.append_nil, List.length_nil, h] at this
  exact this
theorem unZ_nil : unZ [] 0 = ([], 0, false) := unZ_no [] 0 (by
  rw [show (0 : Int) = ((0 : Nat) : Int) from rfl, dvZ_nat]
  exact dcV_none _ rfl)
theorem erZ_ok (s : List UInt8) (h : erZ (rdN 0 (unZ s 0).1) = s) : ruF 0 (rdN 0 (unZ s 0).1) = true := by
  cases hc : ruF 0 (rdN 0 (unZ s 0).1) with
  | true => rfl
  | false =>
    rw [erZ_no _ hc] at h
    subst h
    rw [unZ_nil] at hc
    exact absurd hc (by decide)
/-- The model looks at the bytes' number, too: it says the same. -/
theorem drZ_bad (s : List UInt8) (h : (unZ s 0).2.2 = false ∨ (unZ s 0).2.1 ≠ s.length) : drZ s = ([], false) := by
  by_cases hs : erZ (rdN 0 (unZ s 0).1) = s
  · have e := drZ_whole s _ hs (erZ_ok s hs)
    rw [e] at h
    simp at h
  · exact drZ_ne s hs
theorem drZ_erZ (l : List RuL) (h : ruF 0 l = true) : drZ (erZ l) = (l, true) := by
  have e := drZ_whole (erZ l) l rfl h
  have e2 := drZ_eq (erZ l) (by rw [e]; simp only [ruN_length]; omega) (by rw [e, rdN_ruN])
  rw [e2, e, rdN_ruN]
theorem drZ_more (l : List RuL) (h : ruF 0 l = true) (x : UInt8) : (drZ (erZ l ++ [x])).2 = false := by
  have hk := ruN_ok l 0 (by omega) h
  have e := unZ_pk [] [x] (ruN 0 l) hk (by have := ruN_len l h; omega)
  simp only [List.nil_append, List.length_nil] at e
  rw [erZ_yes l h, drZ_bad _ (.inr ?_)]
  have e' : unZ (pkZ (ruN 0 l) ++ [x]) 0 = (ruN 0 l, (pkZ (ruN 0 l)).length, true) := e
  rw [e']
  simp
theorem drZ_len (s : List UInt8) : (drZ s).1.length ≤ s.length := by
  unfold drZ
  split
  · rename_i h
    have := rdN_length ((unZ s 0).1.length / 4) (unZ s 0).1 0 (by omega)
    have h2 := (unZ_len s 0).1
    simp only
    omega
  · simp
end Go.Proofs.Ytfemkbdgbpgjgaa
