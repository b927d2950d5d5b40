/- The structure of programs, plain: ends of blocks, elses, functions, variables. Nothing of the program. -/
import Derived.Test.YtfemkbdgbpgjgaaPlainB
namespace Go.Proofs.Ytfemkbdgbpgjgaa
open Go.RowKit Go.Lib

/-- Does a line of this kind begin a block? -/
def isOp (k : Int) : Bool := k == 0 || k == 3 || k == 5
/-- By how much a line of this kind changes the number of open blocks. -/
def opn (k : Int) : Int := if isOp k then 1 else if k = 7 then -1 else 0
theorem opn_cases (k : Int) : (opn k = 1 ∧ isOp k = true) ∨ (opn k = -1 ∧ k = 7) ∨ (opn k = 0 ∧ isOp k = false ∧ k ≠ 7) := by
  unfold opn
  by_cases h : isOp k = true
  · exact .inl ⟨by rw [if_pos h], h⟩
  · rw [if_neg h]
    by_cases h7 : k = 7
    · exact .inr (.inl ⟨by rw [if_pos h7], h7⟩)
    · exact .inr (.inr ⟨by rw [if_neg h7], by simpa using h, h7⟩)
/-- The end of what is open, o blocks, from the line i on. -/
def endF (o : Int) (i : Nat) : List PLine → Int
  | [] => -1
  | x :: r => if o + opn x.kind = 0 then (i : Int) else endF (o + opn x.kind) (i + 1) r
/-- Line k's kind; -1 where there is none. -/
def lkZ (p : List PLine) (k : Int) : Int := if k < 0 then -1 else match p[k.toNat]? with
  | none => -1
  | some x => x.kind
def beZ (p : List PLine) (k : Int) : Int := if 0 ≤ k ∧ k.toNat < p.length ∧ isOp (lkZ p k) = true then endF 0 k.toNat (p.drop k.toNat) else -1
theorem lkZ_at (p : List PLine) (k : Nat) (h : k < p.length) : lkZ p (k : Int) = p[k].kind := by
  unfold lkZ
  rw [if_neg (by omega), Int.toNat_natCast, List.getElem?_eq_getElem h]
theorem endF_at (p : List PLine) (o : Int) (i : Nat) (h : i < p.length) : endF o i (p.drop i) = if o + opn p[i].kind = 0 then (i : Int) else endF (o + opn p[i].kind) (i + 1) (p.drop (i + 1)) := by
  rw [List.drop_eq_getElem_cons h]
  rfl
theorem endF_out (p : List PLine) (o : Int) (i : Nat) (h : p.length ≤ i) : endF o i (p.drop i) = -1 := by
  rw [List.drop_of_length_le h]
  rfl
theorem endF_ge (l : List PLine) : ∀ o i, endF o i l = -1 ∨ ((i : Int) ≤ endF o i l ∧ endF o i l < (i : Int) + (l.length : Int)) := by
  induction l with
  | nil => intro o i; exact .inl rfl
  | cons x r ih =>
    intro o i
    unfold endF
    split
    · exact .inr ⟨Int.le_refl _, by rw [List.length_cons]; omega⟩
    · rcases ih (o + opn x.kind) (i + 1) with h | h
      · exact .inl h
      · refine .inr ⟨by omega, ?_⟩
        rw [List.length_cons]
        omega
/-- Within what ends, a smaller count ends earlier. -/
theorem endF_in (l : List PLine) : ∀ (o c : Int) (i : Nat), 1 ≤ o → 1 ≤ c → 0 ≤ endF (o + c) i l → (i : Int) ≤ endF c i l ∧ endF c i l < endF (o + c) i l := by
  induction l with
  | nil => intro o c i _ _ h; simp [endF] at h
  | cons x r ih =>
    intro o c i ho hc h
    have hd := opn_cases x.kind
    have e1 : endF (o + c) i (x :: r) = endF (o + c + opn x.kind) (i + 1) r := by
      rw [endF, if_neg (by omega)]
    rw [e1] at h ⊢
    by_cases h0 : c + opn x.kind = 0
    · have e2 : endF c i (x :: r) = (i : Int) := by rw [endF, if_pos h0]
      rw [e2]
      refine ⟨Int.le_refl _, ?_⟩
      rcases endF_ge r (o + c + opn x.kind) (i + 1) with h' | h'
      · omega
      · omega
    · have e2 : endF c i (x :: r) = endF (c + opn x.kind) (i + 1) r := by rw [endF, if_neg h0]
      rw [e2]
      have e3 : o + c + opn x.kind = o + (c + opn x.kind) := by omega
      rw [e3] at h ⊢
      have := ih o (c + opn x.kind) (i + 1) ho (by omega) h
      omega
/-- Between a block's beginning and its end, at least one is open. -/
theorem endF_open (p : List PLine) (i d : Nat) : ∀ (o : Int), 1 ≤ o → 0 ≤ endF o i (p.drop i) → ((i + d : Nat) : Int) ≤ endF o i (p.drop i) → ∃ o', 1 ≤ o' ∧ endF o' (i + d) (p.drop (i + d)) = endF o i (p.drop i) := by
  induction d with
  | zero => intro o ho h _; exact ⟨o, ho, rfl⟩
  | succ d ih =>
    intro o ho h hd
    obtain ⟨o', ho', he⟩ := ih o ho h (by omega)
    have hlt : i + d < p.length := by
      rcases Nat.lt_or_ge (i + d) p.length with hl | hl
      · exact hl
      · rw [endF_out p o' _ hl] at he; omega
    rw [endF_at p o' _ hlt] at he
    have hc := opn_cases p[i + d].kind
    by_cases h0 : o' + opn p[i + d].kind = 0
    · rw [if_pos h0] at he; omega
    · rw [if_neg h0] at he
      exact ⟨_, by omega, he⟩
theorem beZ_not (p : List PLine) (k : Int) (h : ¬(0 ≤ k ∧ k.toNat < p.length ∧ isOp (lkZ p k) = true)) : beZ p k = -1 := by
  unfold beZ; rw [if_neg h]
theorem beZ_at (p : List PLine) (k : Nat) (hl : k < p.length) (hk : isOp p[k].kind = true) : beZ p (k : Int) = endF 1 (k + 1) (p.drop (k + 1)) := by
  unfold beZ
  rw [if_pos ⟨by omega, by simpa using hl, by rw [lkZ_at p k hl]; exact hk⟩, Int.toNat_natCast, endF_at p 0 k hl]
  have : opn p[k].kind = 1 := by unfold opn; rw [if_pos hk]
  rw [this, if_neg (by decide)]
  rfl
theorem beZ_is (p : List PLine) (k : Int) (h : 0 ≤ beZ p k) : ∃ j : Nat, k = (j : Int) ∧ ∃ hj : j < p.length, isOp p[j].kind = true ∧ (j : Int) < beZ p k ∧ beZ p k < (p.length : Int) := by
  by_cases hc : 0 ≤ k ∧ k.toNat < p.length ∧ isOp (lkZ p k) = true
  · obtain ⟨h0, h1, h2⟩ := hc
    obtain ⟨j, rfl⟩ := Int.eq_ofNat_of_zero_le h0
    have hj : j < p.length := by simpa using h1
    rw [lkZ_at p j hj] at h2
    refine ⟨j, rfl, hj, h2, ?_⟩
    rw [beZ_at p j hj h2] at h ⊢
    rcases endF_ge (p.drop (j + 1)) 1 (j + 1) with h' | h'
    · omega
    · rw [List.length_drop] at h'
      omega
  · rw [beZ_not p k hc] at h; exact absurd h (by decide)
theorem beZ_lt (p : List PLine) (k : Int) : -1 ≤ beZ p k ∧ beZ p k < (p.length : Int) := by
  by_cases h : 0 ≤ beZ p k
  · obtain ⟨j, _, _, _, h1, h2⟩ := beZ_is p k h
    omega
  · by_cases hc : 0 ≤ k ∧ k.toNat < p.length ∧ isOp (lkZ p k) = true
    · unfold beZ at h ⊢
      rw [if_pos hc] at h ⊢
      rcases endF_ge (p.drop k.toNat) 0 k.toNat with h' | h'
      · omega
      · omega
    · rw [beZ_not p k hc]; omega
/-- A block that begins within another ends within it. -/
theorem beZ_in (p : List PLine) (k : Int) (i : Nat) (h : 0 ≤ beZ p k) (hk : k < (i : Int)) (hi : (i : Int) < beZ p k) (hl : i < p.length) (ho : isOp p[i].kind = true) : (i : Int) < beZ p (i : Int) ∧ beZ p (i : Int) < beZ p k := by
  obtain ⟨j, rfl, hj, hop, _, _⟩ := beZ_is p k h
  rw [beZ_at p j hj hop] at h hi ⊢
  rw [beZ_at p i hl ho]
  obtain ⟨d, rfl⟩ : ∃ d, i = j + 1 + d := ⟨i - (j + 1), by omega⟩
  obtain ⟨o, ho1, he⟩ := endF_open p (j + 1) d 1 (by decide) h (by omega)
  rw [endF_at p o _ hl] at he
  have h1 : opn p[j + 1 + d].kind = 1 := by unfold opn; rw [if_pos ho]
  rw [h1, if_neg (by omega)] at he
  rw [← he] at h ⊢
  have := endF_in (p.drop (j + 1 + d + 1)) o 1 (j + 1 + d + 1) ho1 (by decide) h
  omega
/-- The else between i and e, on that level. -/
def elseF (p : List PLine) (e : Int) : Nat → Nat → Int
  | 0, _ => -1
  | f + 1, i => if e ≤ (i : Int) then -1 else if lkZ p i = 4 then (i : Int) else if lkZ p i = 3 ∨ lkZ p i = 5 then elseF p e f ((beZ p i).toNat + 1) else elseF p e f (i + 1)
def elseZ (p : List PLine) (k : Int) : Int := if 0 ≤ beZ p k ∧ lkZ p k = 3 then elseF p (beZ p k) p.length (k.toNat + 1) else -1
theorem elseF_out (p : List PLine) (e : Int) (f i : Nat) (h : e ≤ (i : Int)) : elseF p e f i = -1 := by
  cases f with
  | zero => rfl
  | succ f => rw [elseF, if_pos h]
/-- More steps than lines come to the same. -/
theorem elseF_more (p : List PLine) (k : Int) (hk0 : 0 ≤ beZ p k) : ∀ (f g i : Nat), k < (i : Int) → beZ p k ≤ (f : Int) + (i : Int) → beZ p k ≤ (g : Int) + (i : Int) → elseF p (beZ p k) f i = elseF p (beZ p k) g i := by
  intro f
  induction f with
  | zero =>
    intro g i _ h1 _
    rw [elseF_out _ _ _ _ (by omega), elseF_out _ _ _ _ (by omega)]
  | succ f ih =>
    intro g i hki h1 h2
    by_cases hi : beZ p k ≤ (i : Int)
    · rw [elseF_out _ _ _ _ hi, elseF_out _ _ _ _ hi]
    · cases g with
      | zero => omega
      | succ g =>
        have hl := (beZ_lt p k).2
        have hil : i < p.length := by omega
        rw [elseF, elseF, if_neg hi, if_neg hi]
        by_cases h4 : lkZ p i = 4
        · rw [if_pos h4, if_pos h4]
        · rw [if_neg h4, if_neg h4]
          by_cases h35 : lkZ p i = 3 ∨ lkZ p i = 5
          · rw [if_pos h35, if_pos h35]
            have hop : isOp p[i].kind = true := by
              rw [lkZ_at p i hil] at h35
              unfold isOp
              rcases h35 with h | h <;> rw [h] <;> rfl
            have := beZ_in p k i hk0 hki (by omega) hil hop
            exact ih g _ (by omega) (by omega) (by omega)
          · rw [if_neg h35, if_neg h35]
            exact ih g _ (by omega) (by omega) (by omega)
theorem elseF_lt (p : List PLine) (e : Int) : ∀ (f i : Nat), elseF p e f i = -1 ∨ elseF p e f i < e := by
  intro f
  induction f with
  | zero => intro i; exact .inl rfl
  | succ f ih =>
    intro i
    rw [elseF]
    split
    · exact .inl rfl
    · split
      · exact .inr (by omega)
      · split
        · exact ih _
        · exact ih _
theorem elseZ_lt (p : List PLine) (k : Int) (h : 0 ≤ elseZ p k) : elseZ p k < beZ p k := by
  unfold elseZ at h ⊢
  split at h
  · rename_i hc
    rw [if_pos hc]
    rcases elseF_lt p (beZ p k) p.length (k.toNat + 1) with h' | h'
    · rw [h'] at h; exact absurd h (by decide)
    · exact h'
  · exact absurd h (by decide)
/-- The indices of the functions. -/
def funF (i : Nat) : List PLine → List Nat
  | [] => []
  | x :: r => if x.kind = 0 then i :: funF (i + 1) r else funF (i + 1) r
def funs (p : List PLine) : List Nat := funF 0 p
/-- The first function of a name. -/
def findF (n : ByteArray) (i : Nat) : List PLine → Int
  | [] => -1
  | x :: r => if x.kind = 0 ∧ x.name = n then (i : Int) else findF n (i + 1) r
def findZ (p : List PLine) (n : ByteArray) : Int := findF n 0 p
/-- The variables: those that are set, behind those that there are. -/
def locF (v : List ByteArray) : List PLine → List ByteArray
  | [] => v
  | x :: r => if x.kind = 1 ∧ memB v x.name = false then locF (v ++ [x.name]) r else locF v r
def argsZ (p : List PLine) (k : Int) : List ByteArray := if k < 0 then [] else match p[k.toNat]? with
  | none => []
  | some x => x.args
def locZ (p : List PLine) (k : Int) : List ByteArray := if 0 ≤ beZ p k ∧ lkZ p k = 0 then locF (argsZ p k) ((p.drop k.toNat).take ((beZ p k).toNat - k.toNat)) else []
theorem funF_app (a : List PLine) : ∀ i b, funF i (a ++ b) = funF i a ++ funF (i + a.length) b := by
  induction a with
  | nil => intro i b; rfl
  | cons x r ih =>
    intro i b
    simp only [List.cons_append, funF, List.length_cons]
    rw [ih, show i + 1 + r.length = i + (r.length + 1) from by omega]
    split <;> rfl
theorem funs_snoc (p : List PLine) (k : Nat) (h : k < p.length) : funs (p.take (k + 1)) = if p[k].kind = 0 then funs (p.take k) ++ [k] else funs (p.take k) := by
  unfold funs
  rw [List.take_succ_eq_append_getElem h, funF_app, List.length_take, Nat.zero_add, show min k p.length = k from by omega]
  simp only [funF]
  split
  · rfl
  · rw [List.append_nil]
theorem findF_at (p : List PLine) (n : ByteArray) (i : Nat) (h : i < p.length) : findF n i (p.drop i) = if p[i].kind = 0 ∧ p[i].name = n then (i : Int) else findF n (i + 1) (p.drop (i + 1)) := by
  rw [List.drop_eq_getElem_cons h]
  rfl
theorem findF_out (p : List PLine) (n : ByteArray) (i : Nat) (h : p.length ≤ i) : findF n i (p.drop i) = -1 := by
  rw [List.drop_of_length_le h]
  rfl
theorem locF_app (a : List PLine) : ∀ v b, locF v (a ++ b) = locF (locF v a) b := by
  induction a with
  | nil => intro v b; rfl
  | cons x r ih =>
    intro v b
    simp only [List.cons_append, locF]
    split <;> rw [ih]
end Go.Proofs.Ytfemkbdgbpgjgaa
