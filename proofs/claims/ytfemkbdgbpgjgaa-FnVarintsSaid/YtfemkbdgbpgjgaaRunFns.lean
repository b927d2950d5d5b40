/- Runs of programs, plain: in which function a line lies; what a visit's lines say of one another. Nothing of the program. -/
import Derived.Test.YtfemkbdgbpgjgaaRunShape
namespace Go.Proofs.Ytfemkbdgbpgjgaa
open Go.RowKit Go.Lib

def fnStep (nm : ByteArray) (x : PLine) : ByteArray := if x.kind = 0 then x.name else nm
/-- The name of the function in which a line lies. -/
def fnN (p : List PLine) (k : Nat) : ByteArray := if k < p.length then (p.take (k + 1)).foldl fnStep ⟨#[]⟩ else ⟨#[]⟩
theorem fn_next (p : List PLine) (k : Nat) (h : k < p.length) : (p.take (k + 1)).foldl fnStep ⟨#[]⟩ = fnStep ((p.take k).foldl fnStep ⟨#[]⟩) p[k] := by
  rw [List.take_succ_eq_append_getElem h, List.foldl_append]
  rfl
theorem fn_from (p : List PLine) (f : Nat) (hf : f < p.length) (h0 : p[f].kind = 0) (d : Nat) : ∀ h : f + d < p.length, (∀ i, f < i → i ≤ f + d → ∀ h : i < p.length, p[i].kind ≠ 0) → (p.take (f + d + 1)).foldl fnStep ⟨#[]⟩ = p[f].name := by
  induction d with
  | zero =>
    intro h _
    rw [Nat.add_zero, fn_next p f hf]
    unfold fnStep
    rw [if_pos h0]
  | succ d ih =>
    intro h hn
    rw [fn_next p (f + (d + 1)) h]
    unfold fnStep
    rw [if_neg (hn (f + (d + 1)) (by omega) (Nat.le_refl _) h)]
    exact ih (by omega) (fun i h1 h2 h3 => hn i h1 (by omega) h3)
theorem follow_low (p : List PLine) (l : List Nat) : ∀ m : Int, followF p m l → ∀ g ∈ l, m ≤ (g : Int) := by
  induction l with
  | nil => intro m _ g hg; cases hg
  | cons x r ih =>
    intro m h g hg
    obtain ⟨h1, h2, h3⟩ := h
    rcases List.mem_cons.1 hg with rfl | hg
    · omega
    · have := ih _ h3 g hg
      have := beZ_gt p (x : Int) h2
      omega
theorem follow_apart (p : List PLine) (l : List Nat) : ∀ m : Int, followF p m l → ∀ f ∈ l, ∀ g ∈ l, f < g → beZ p (f : Int) < (g : Int) := by
  induction l with
  | nil => intro m _ f hf; cases hf
  | cons x r ih =>
    intro m h f hf g hg hfg
    obtain ⟨h1, h2, h3⟩ := h
    rcases List.mem_cons.1 hf with e | hf'
    · subst e
      rcases List.mem_cons.1 hg with e | hg'
      · omega
      · have := follow_low p r _ h3 g hg'; omega
    · rcases List.mem_cons.1 hg with e | hg'
      · subst e
        have := follow_low p r _ h3 f hf'
        have := beZ_gt p (g : Int) h2
        omega
      · exact ih _ h3 f hf' g hg' hfg
theorem funs_at (p : List PLine) (f : Nat) (h : f ∈ funs p) : ∃ hl : f < p.length, p[f].kind = 0 := by
  unfold funs at h
  rw [funs_mem p 0 f] at h
  obtain ⟨h1, _, h2⟩ := h
  exact ⟨h1, h2⟩
/-- A line of a function lies in it. -/
theorem fn_of (p : List PLine) (ho : OkI p) (f k : Nat) (hf : f ∈ funs p) (h1 : f ≤ k) (h2 : (k : Int) < beZ p (f : Int)) : fnN p k = nameAt p f := by
  obtain ⟨hl, h0⟩ := funs_at p f hf
  have hb := (beZ_lt p (f : Int)).2
  have hk : k < p.length := by omega
  unfold fnN
  rw [if_pos hk]
  obtain ⟨d, rfl⟩ : ∃ d, k = f + d := ⟨k - f, by omega⟩
  rw [fn_from p f hl h0 d hk (fun i h3 h4 h5 h6 => by
    have := follow_apart p (funs p) 0 ho.2.2.1 f hf i (fun_in p i h5 h6) h3
    omega)]
  unfold nameAt
  rw [List.getElem?_eq_getElem hl]
theorem findF_name (n : ByteArray) (l : List PLine) : ∀ i : Nat, findF n i l = -1 ∨ ∃ j, ∃ h : j < l.length, findF n i l = ((i + j : Nat) : Int) ∧ l[j].name = n := by
  induction l with
  | nil => intro i; exact .inl rfl
  | cons x r ih =>
    intro i
    unfold findF
    by_cases hc : x.kind = 0 ∧ x.name = n
    · rw [if_pos hc]
      exact .inr ⟨0, by simp, by simp, hc.2⟩
    · rw [if_neg hc]
      rcases ih (i + 1) with h | ⟨j, hj, h1, h2⟩
      · exact .inl h
      · refine .inr ⟨j + 1, by simpa using hj, ?_, h2⟩
        rw [h1]
        congr 1
        omega
theorem findZ_name (p : List PLine) (n : ByteArray) (f : Nat) (h : findZ p n = (f : Int)) : nameAt p f = n := by
  rcases findF_name n p 0 with h' | ⟨j, hj, h1, h2⟩
  · unfold findZ at h; omega
  · unfold findZ at h
    have : f = j := by omega
    subst this
    unfold nameAt
    rw [List.getElem?_eq_getElem hj]
    exact h2
/-- A line calls the function of the next. -/
def CallsTo (p : List PLine) (a b : Int) : Prop := ∃ (i k : Nat), a = (i : Int) ∧ b = (k : Int) ∧ ∃ h : i < p.length, ∃ t ∈ p[i].expr, t.kind = 7 ∧ t.name = fnN p k
/-- The lines of a visit, from the first one on. -/
theorem chain_steps (p : List PLine) (ho : OkI p) {c : List Int} {f : Nat} (h : Chain p c f) : ∀ k : Nat, f ≤ k → (k : Int) < beZ p (f : Int) → (∀ i, ∀ hi : i + 1 < (c ++ [(k : Int)]).length, CallsTo p (c ++ [(k : Int)])[i] (c ++ [(k : Int)])[i + 1]) ∧ ∃ m : Nat, (c ++ [(k : Int)])[0]? = some (m : Int) ∧ fnN p m = mainT := by
  induction h with
  | main =>
    intro k h1 h2
    refine ⟨fun i hi => by simp at hi, k, rfl, ?_⟩
    have hz := (find_zero p mainT).1 ho.2.1.2.1
    obtain ⟨hl, hk, hn⟩ := hz
    rw [fn_of p ho 0 k (fun_in p 0 hl hk) (Nat.zero_le _) h2]
    unfold nameAt
    rw [List.getElem?_eq_getElem hl]
    exact hn
  | @call c f f' k0 t h h1 h2 hl ht h7 hf ih =>
    intro k h3 h4
    obtain ⟨ih1, m, ih2, ih3⟩ := ih k0 (by omega) h2
    have hf' := findZ_fun p _ f' hf
    have hfn : fnN p k = t.name := by rw [fn_of p ho f' k hf' h3 h4, findZ_name p _ f' hf]
    refine ⟨fun i hi => ?_, m, ?_, ih3⟩
    · by_cases hlast : i + 1 < (c ++ [(k0 : Int)]).length
      · have e1 : (c ++ [(k0 : Int)] ++ [(k : Int)])[i] = (c ++ [(k0 : Int)])[i] := List.getElem_append_left (by omega)
        have e2 : (c ++ [(k0 : Int)] ++ [(k : Int)])[i + 1] = (c ++ [(k0 : Int)])[i + 1] := List.getElem_append_left hlast
        rw [e1, e2]
        exact ih1 i hlast
      · have hlen : (c ++ [(k0 : Int)]).length = i + 1 := by
          simp only [List.length_append, List.length_cons, List.length_nil] at hi hlast ⊢
          omega
        have e1 : (c ++ [(k0 : Int)] ++ [(k : Int)])[i]? = some (k0 : Int) := by
          rw [List.getElem?_append_left (by omega)]
          rw [List.getElem?_append_right (by simp at hlen; omega)]
          simp at hlen
          simp [hlen]
        have e2 : (c ++ [(k0 : Int)] ++ [(k : Int)])[i + 1]? = some (k : Int) := by
          rw [List.getElem?_append_right (by omega), hlen]
          simp
        rw [List.getElem?_eq_getElem (by omega)] at e1
        rw [List.getElem?_eq_getElem hi] at e2
        injection e1 with e1
        injection e2 with e2
        rw [e1, e2]
        exact ⟨k0, k, rfl, rfl, hl, t, ht, h7, hfn.symm⟩
    · rw [List.getElem?_append_left (by simp)]
      exact ih2
/-- What the law asks of a visit. -/
theorem shape_steps (p : List PLine) (ho : OkI p) (v : List Int) (h : ShapeV p v) : 0 < v.length ∧ v.length ≤ 7 ∧ (∀ i, ∀ hi : i + 1 < v.length, CallsTo p v[i] v[i + 1]) ∧ ∃ m : Nat, v[0]? = some (m : Int) ∧ fnN p m = mainT := by
  obtain ⟨c, f, k, rfl, hc, h6, h1, h2⟩ := h
  obtain ⟨a, b⟩ := chain_steps p ho hc k (by omega) h2
  exact ⟨by simp, by simp; omega, a, b⟩
end Go.Proofs.Ytfemkbdgbpgjgaa
