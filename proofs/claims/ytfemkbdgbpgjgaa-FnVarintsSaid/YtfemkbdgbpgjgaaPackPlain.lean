/- Plain facts on lists of numbers as bytes, and back. -/
import Derived.Test.YtfemkbdgbpgjgaaVarPlain
namespace Go.Proofs.Ytfemkbdgbpgjgaa
open Go.RowKit Go.Lib

/-- A number's bytes, without sign; a length and the bytes of all numbers. -/
def sgB (a : Int) : List UInt8 := vl (sglZ a).toNat
def pkB (N : Nat) (l : List Int) : List UInt8 := vl N ++ l.flatMap sgB
def okPk (l : List Int) : Bool := l.all fun a => decide (0 ≤ sglZ a)
def pkZ (l : List Int) : List UInt8 := if okPk l then pkB l.length l else []
theorem pkB_nil (N : Nat) : pkB N [] = vl N := by unfold pkB; simp
theorem pkB_take (N : Nat) (l : List Int) (k : Nat) (h : k < l.length) : pkB N (l.take (k + 1)) = pkB N (l.take k) ++ vl (sglZ l[k]).toNat := by
  unfold pkB
  rw [List.take_succ_eq_append_getElem h, List.flatMap_append, ← List.append_assoc]
  congr 1
  simp [sgB]
theorem sgB_len (a : Int) : 1 ≤ (sgB a).length ∧ (sgB a).length ≤ 6 := by
  unfold sgB
  have := sgl_bd a
  exact ⟨vl_pos _, vl_len6 _ (by omega)⟩
theorem pkB_len (N : Nat) (l : List Int) (h : N ≤ 1099511627775) : (pkB N l).length ≤ 6 + 6 * l.length := by
  unfold pkB
  rw [List.length_append]
  have h1 := vl_len6 N h
  have h2 : (l.flatMap sgB).length ≤ 6 * l.length := by
    induction l with
    | nil => simp
    | cons a l ih =>
      rw [List.flatMap_cons, List.length_append, List.length_cons]
      have := (sgB_len a).2
      omega
  omega
theorem okPk_no (l : List Int) (k : Nat) (h : k < l.length) (hb : sglZ l[k] < 0) : pkZ l = [] := by
  unfold pkZ
  rw [if_neg]
  intro e
  have := List.all_eq_true.1 e l[k] (List.getElem_mem h)
  have h2 : 0 ≤ sglZ l[k] := by simpa using this
  omega
theorem okPk_take (l : List Int) (k : Nat) (h : k < l.length) (ha : okPk (l.take k) = true) (hb : 0 ≤ sglZ l[k]) : okPk (l.take (k + 1)) = true := by
  unfold okPk at ha ⊢
  rw [List.take_succ_eq_append_getElem h, List.all_append, ha]
  simp [hb]
theorem pkZ_yes (l : List Int) (h : okPk l = true) : pkZ l = pkB l.length l := by unfold pkZ; rw [if_pos h]
theorem pkZ_pos (l : List Int) (h : okPk l = true) : 1 ≤ (pkZ l).length := by
  rw [pkZ_yes l h]
  unfold pkB
  rw [List.length_append]
  have := vl_pos l.length
  omega

/-- The numbers found from a place on, one after another, and the place behind them. -/
def upN (s : List UInt8) (p : Nat) : Nat → Option (List Int × Nat)
  | 0 => some ([], p)
  | k + 1 => match upN s p k with
    | none => none
    | some (l, q) => if (dcV (s.drop q)).2.2 = true then some (l ++ [sgdZ ((dcV (s.drop q)).1 : Int)], q + (dcV (s.drop q)).2.1) else none
theorem upN_ok (s : List UInt8) (p k n z q : Nat) (l : List Int) (h : upN s p k = some (l, q)) (hd : dcV (s.drop q) = (n, z, true)) : upN s p (k + 1) = some (l ++ [sgdZ (n : Int)], q + z) := by
  unfold upN
  rw [h]
  show (if (dcV (s.drop q)).2.2 = true then _ else _) = _
  rw [hd]
  rfl
theorem upN_no (s : List UInt8) (p k q : Nat) (l : List Int) (h : upN s p k = some (l, q)) (hd : dcV (s.drop q) = (0, 0, false)) : upN s p (k + 1) = none := by
  unfold upN
  rw [h]
  show (if (dcV (s.drop q)).2.2 = true then _ else _) = _
  rw [hd]
  rfl
theorem upN_none (s : List UInt8) (p k : Nat) (h : upN s p k = none) : upN s p (k + 1) = none := by unfold upN; rw [h]
theorem upN_far (s : List UInt8) (p k : Nat) (h : upN s p k = none) (n : Nat) (hn : k ≤ n) : upN s p n = none := by
  induction n with
  | zero => obtain rfl : k = 0 := by omega
            exact h
  | succ n ih =>
    by_cases e : k = n + 1
    · subst e; exact h
    · exact upN_none s p n (ih (by omega))
theorem upN_len (s : List UInt8) (p : Nat) : ∀ (k : Nat) (l : List Int) (q : Nat), upN s p k = some (l, q) → l.length = k ∧ p + k ≤ q ∧ (k = 0 ∧ q = p ∨ q ≤ s.length) := by
  intro k
  induction k with
  | zero => intro l q h; unfold upN at h; injection h with h; injection h with h1 h2; subst h1 h2; simp
  | succ k ih =>
    intro l q h
    cases hc : upN s p k with
    | none => rw [upN_none s p k hc] at h; cases h
    | some lq =>
      obtain ⟨l', q'⟩ := lq
      have hi := ih l' q' hc
      rcases dcV_cases (s.drop q') with e | ⟨n, z, e, h1, h2, h3, h4, h5⟩
      · rw [upN_no s p k q' l' hc e] at h; cases h
      · rw [upN_ok s p k n z q' l' hc e] at h
        injection h with h
        injection h with ha hb
        subst ha hb
        rw [List.length_drop] at h4
        refine ⟨by rw [List.length_append, hi.1]; rfl, by omega, .inr (by omega)⟩
/-- What UnpackInts finds: the numbers, the number of bytes, and whether there are any. -/
def unZ (s : List UInt8) (a : Int) : List Int × Nat × Bool :=
  if (dvZ s a).2.2 = true then
    match upN s (a.toNat + (dvZ s a).2.1) (dvZ s a).1 with
    | none => ([], 0, false)
    | some (l, q) => (l, q - a.toNat, true)
  else ([], 0, false)
theorem unZ_no (s : List UInt8) (a : Int) (h : dvZ s a = (0, 0, false)) : unZ s a = ([], 0, false) := by unfold unZ; rw [h]; rfl
theorem unZ_none (s : List UInt8) (i n z : Nat) (h : dvZ s (i : Int) = (n, z, true)) (hu : upN s (i + z) n = none) : unZ s (i : Int) = ([], 0, false) := by
  unfold unZ
  rw [h, if_pos rfl]
  show (match upN s ((i : Int).toNat + z) n with | none => _ | some (l, q) => _) = _
  rw [Int.toNat_natCast, hu]
theorem unZ_some (s : List UInt8) (i n z q : Nat) (l : List Int) (h : dvZ s (i : Int) = (n, z, true)) (hu : upN s (i + z) n = some (l, q)) : unZ s (i : Int) = (l, q - i, true) := by
  unfold unZ
  rw [h, if_pos rfl]
  show (match upN s ((i : Int).toNat + z) n with | none => _ | some (l, q) => _) = _
  rw [Int.toNat_natCast, hu]
theorem dvZ_cases (s : List UInt8) (a : Int) : dvZ s a = (0, 0, false) ∨ ∃ i n z : Nat, a = (i : Int) ∧ dvZ s (i : Int) = (n, z, true) ∧ n ≤ 1099511627775 ∧ 1 ≤ z ∧ z ≤ 6 ∧ i + z ≤ s.length := by
  by_cases h : a < 0
  · exact .inl (dvZ_neg s a h)
  · obtain ⟨i, rfl⟩ : ∃ i : Nat, a = (i : Int) := ⟨a.toNat, by omega⟩
    rw [dvZ_nat]
    rcases dcV_cases (s.drop i) with e | ⟨n, z, e, h1, h2, h3, h4, _⟩
    · exact .inl e
    · rw [List.length_drop] at h4
      exact .inr ⟨i, n, z, rfl, e, h1, h2, h3, by omega⟩
theorem unZ_short (s : List UInt8) (i n z : Nat) (h : dvZ s (i : Int) = (n, z, true)) (hn : s.length < i + z + n) (hz : i + z ≤ s.length) : unZ s (i : Int) = ([], 0, false) := by
  refine unZ_none s i n z h ?_
  cases hc : upN s (i + z) n with
  | none => rfl
  | some lq =>
    have := upN_len s (i + z) n lq.1 lq.2 hc
    omega
theorem unZ_len (s : List UInt8) (a : Int) : (unZ s a).1.length ≤ s.length ∧ (unZ s a).2.1 ≤ s.length := by
  rcases dvZ_cases s a with e | ⟨i, n, z, rfl, e, h1, h2, h3, h4⟩
  · rw [unZ_no s a e]; simp
  · cases hc : upN s (i + z) n with
    | none => rw [unZ_none s i n z e hc]; simp
    | some lq =>
      have hl := upN_len s (i + z) n lq.1 lq.2 hc
      rw [unZ_some s i n z lq.2 lq.1 e hc]
      simp only
      omega
/-- Numbers that were packed are found again, whatever is around. -/
theorem upN_pk (pre post : List UInt8) (l : List Int) (h : okPk l = true) : ∀ k, k ≤ l.length → upN (pre ++ (l.flatMap sgB ++ post)) pre.length k = some (l.take k, pre.length + ((l.take k).flatMap sgB).length) := by
  intro k
  induction k with
  | zero => intro _; simp [upN]
  | succ k ih =>
    intro hk
    have hk' : k < l.length := by omega
    have e1 : l.flatMap sgB = (l.take k).flatMap sgB ++ (sgB l[k] ++ (l.drop (k + 1)).flatMap sgB) := by
      have : l = l.take k ++ l[k] :: l.drop (k + 1) := by rw [← List.drop_eq_getElem_cons hk', List.take_append_drop]
      conv => lhs; rw [this]
      rw [List.flatMap_append, List.flatMap_cons]
    have e2 : (pre ++ (l.flatMap sgB ++ post)).drop (pre.length + ((l.take k).flatMap sgB).length) = sgB l[k] ++ ((l.drop (k + 1)).flatMap sgB ++ post) := by
      rw [e1, ← List.drop_drop, List.drop_left, List.append_assoc, List.drop_left, List.append_assoc]
    have hb : 0 ≤ sglZ l[k] := by
      have := List.all_eq_true.1 h l[k] (List.getElem_mem hk')
      simpa using this
    have hin := sgl_in _ hb
    have e3 : dcV (sgB l[k] ++ ((l.drop (k + 1)).flatMap sgB ++ post)) = ((sglZ l[k]).toNat, (sgB l[k]).length, true) := dcV_vl _ _ (by omega)
    have e4 := upN_ok _ pre.length k _ _ _ _ (ih (by omega)) (by rw [e2]; exact e3)
    have e5 : ((l.take (k + 1)).flatMap sgB).length = ((l.take k).flatMap sgB).length + (sgB l[k]).length := by
      rw [List.take_succ_eq_append_getElem hk', List.flatMap_append, List.length_append]
      congr 1
      rw [List.flatMap_cons, List.flatMap_nil, List.append_nil]
    rw [e4, Int.toNat_of_nonneg hb, sgl_sgd _ hin.1 hin.2.1, e5, List.take_succ_eq_append_getElem hk', Nat.add_assoc]
theorem unZ_pk (pre post : List UInt8) (l : List Int) (h : okPk l = true) (hl : l.length ≤ 1099511627775) : unZ (pre ++ (pkZ l ++ post)) (pre.length : Int) = (l, (pkZ l).length, true) := by
  rw [pkZ_yes l h]
  unfold pkB
  have e1 : (pre ++ ((vl l.length ++ l.flatMap sgB) ++ post)).drop pre.length = vl l.length ++ (l.flatMap sgB ++ post) := by rw [List.drop_left, List.append_assoc]
  have e2 : dvZ (pre ++ ((vl l.length ++ l.flatMap sgB) ++ post)) (pre.length : Int) = (l.length, (vl l.length).length, true) := by rw [dvZ_nat, e1]; exact dcV_vl _ _ hl
  have e3 := upN_pk (pre ++ vl l.length) post l h l.length (Nat.le_refl _)
  rw [List.length_append, List.take_length] at e3
  have e4 : pre ++ vl l.length ++ (l.flatMap sgB ++ post) = pre ++ ((vl l.length ++ l.flatMap sgB) ++ post) := by simp [List.append_assoc]
  rw [e4] at e3
  rw [unZ_some _ pre.length _ _ _ _ e2 e3]
  congr 2
  rw [List.length_append]
  omega

/-- Bytes of a text's length, followed by the text; and back. -/
def pkT (s : List UInt8) : List UInt8 := vl s.length ++ s
def unT (s : List UInt8) (a : Int) : List UInt8 × Nat × Bool :=
  if (dvZ s a).2.2 = true ∧ a.toNat + (dvZ s a).2.1 + (dvZ s a).1 ≤ s.length then ((s.drop (a.toNat + (dvZ s a).2.1)).take (dvZ s a).1, (dvZ s a).2.1 + (dvZ s a).1, true)
  else ([], 0, false)
theorem unT_no (s : List UInt8) (a : Int) (h : dvZ s a = (0, 0, false)) : unT s a = ([], 0, false) := by unfold unT; rw [if_neg]; rw [h]; simp
theorem unT_short (s : List UInt8) (i n z : Nat) (h : dvZ s (i : Int) = (n, z, true)) (hn : s.length < i + z + n) : unT s (i : Int) = ([], 0, false) := by
  unfold unT
  rw [if_neg]
  rw [h]
  simp only [Int.toNat_natCast]
  omega
theorem unT_some (s : List UInt8) (i n z : Nat) (h : dvZ s (i : Int) = (n, z, true)) (hn : i + z + n ≤ s.length) : unT s (i : Int) = ((s.drop (i + z)).take n, z + n, true) := by
  unfold unT
  rw [if_pos]
  · rw [h, Int.toNat_natCast]
  · rw [h]
    refine ⟨rfl, ?_⟩
    rw [Int.toNat_natCast]
    exact hn
theorem unT_pk (pre post t : List UInt8) (hl : t.length ≤ 1099511627775) : unT (pre ++ (pkT t ++ post)) (pre.length : Int) = (t, (pkT t).length, true) := by
  unfold pkT
  have e1 : (pre ++ ((vl t.length ++ t) ++ post)).drop pre.length = vl t.length ++ (t ++ post) := by rw [List.drop_left, List.append_assoc]
  have e2 : dvZ (pre ++ ((vl t.length ++ t) ++ post)) (pre.length : Int) = (t.length, (vl t.length).length, true) := by rw [dvZ_nat, e1]; exact dcV_vl _ _ hl
  rw [unT_some _ _ _ _ e2 (by simp only [List.length_append]; omega)]
  have e3 : (pre ++ ((vl t.length ++ t) ++ post)).drop (pre.length + (vl t.length).length) = t ++ post := by rw [← List.drop_drop, e1, List.drop_left]
  rw [e3, List.take_left, List.length_append]
end Go.Proofs.Ytfemkbdgbpgjgaa
