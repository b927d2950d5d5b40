/- Which programs make sense, in two forms: check by check over the whole program, and function by function; they are the same. Nothing of the program. -/
import Derived.Test.YtfemkbdgbpgjgaaStruPlain
namespace Go.Proofs.Ytfemkbdgbpgjgaa
open Go.RowKit Go.Lib

def mainT : ByteArray := ⟨#[109, 97, 105, 110]⟩
/-- A token names what there is. -/
def knownP (p : List PLine) (v : List ByteArray) (t : TokL) : Prop := (t.kind = 1 → t.name ∈ v) ∧ (t.kind = 7 → 0 ≤ findZ p t.name ∧ ((argsZ p (findZ p t.name)).length : Int) = t.num)
/-- The functions follow one another, from line n on. -/
def followF (p : List PLine) (n : Int) : List Nat → Prop
  | [] => n = (p.length : Int)
  | k :: r => (k : Int) = n ∧ 0 ≤ beZ p k ∧ followF p (beZ p k + 1) r
/-- At most five blocks are open. -/
def nestF (o : Int) : List PLine → Prop
  | [] => True
  | x :: r => o + opn x.kind ≤ 5 ∧ nestF (o + opn x.kind) r
/-- Each else from line i on belongs to an if. -/
def elsesF (p : List PLine) (i : Nat) : List PLine → Prop
  | [] => True
  | x :: r => (x.kind = 4 → ∃ j : Nat, j < i ∧ elseZ p j = (i : Int)) ∧ elsesF p (i + 1) r
/-- The lines from a up to e, without e. -/
def segZ (p : List PLine) (a e : Nat) : List PLine := (p.drop a).take (e - a)
def namesAt (p : List PLine) (k : Nat) : Prop := (locZ p k).length ≤ 8 ∧ ∀ x ∈ segZ p k (beZ p k).toNat, ∀ t ∈ x.expr, knownP p (locZ p k) t
/-- Check by check. -/
def OkI (p : List PLine) : Prop :=
  (p.length ≤ 60 ∧ ∀ x ∈ p, lineB x = true) ∧
  ((funs p).length ≤ 6 ∧ findZ p mainT = 0 ∧ argsZ p 0 = [] ∧ ∀ k ∈ funs p, ∀ h : k < p.length, findZ p p[k].name = (k : Int)) ∧
  followF p 0 (funs p) ∧ nestF 0 p ∧ elsesF p 0 p ∧ ∀ k ∈ funs p, namesAt p k
/-- The lines of a function's body from i on, d blocks being open within it. -/
def bodyL (p : List PLine) (k : Nat) (v : List ByteArray) (d : Int) (i : Nat) : List PLine → Prop
  | [] => True
  | x :: r => (x.kind ≠ 0 ∧ (x.kind = 4 → ∃ j : Nat, k ≤ j ∧ j < i ∧ elseZ p j = (i : Int)) ∧ d + opn x.kind ≤ 4 ∧ ∀ t ∈ x.expr, knownP p v t) ∧ bodyL p k v (d + opn x.kind) (i + 1) r
def bodyOk (p : List PLine) (k : Nat) : Prop := (locZ p k).length ≤ 8 ∧ bodyL p k (locZ p k) 0 (k + 1) (segZ p (k + 1) (beZ p k).toNat)
/-- Function by function. -/
def followS (p : List PLine) : Nat → Nat → Prop
  | 0, _ => True
  | f + 1, k => if p.length ≤ k then True else lkZ p k = 0 ∧ 0 ≤ beZ p k ∧ bodyOk p k ∧ followS p f ((beZ p k).toNat + 1)
def OkS (p : List PLine) : Prop :=
  (∃ h : 0 < p.length, p.length ≤ 60 ∧ p[0].kind = 0 ∧ p[0].name = mainT ∧ p[0].args = [] ∧ (funs p).length ≤ 6) ∧
  (∀ k, ∀ h : k < p.length, lineB p[k] = true ∧ (p[k].kind = 0 → findZ p p[k].name = (k : Int))) ∧ followS p p.length 0

theorem funF_ge (l : List PLine) : ∀ i, ∀ j ∈ funF i l, i ≤ j ∧ j < i + l.length := by
  induction l with
  | nil => intro i j h; simp [funF] at h
  | cons x r ih =>
    intro i j h
    unfold funF at h
    rw [List.length_cons]
    split at h
    · rcases List.mem_cons.1 h with rfl | h
      · omega
      · have := ih _ _ h; omega
    · have := ih _ _ h; omega
theorem funF_none (l : List PLine) : ∀ i, funF i l = [] ↔ ∀ x ∈ l, x.kind ≠ 0 := by
  induction l with
  | nil => intro i; simp [funF]
  | cons x r ih =>
    intro i
    unfold funF
    by_cases h : x.kind = 0
    · rw [if_pos h]; simp [h]
    · rw [if_neg h, ih]; simp [h]
theorem followF_no (p : List PLine) (n : Int) (l : List Nat) (h : ∀ j ∈ l, (j : Int) ≠ n) (hn : n ≠ (p.length : Int)) : ¬ followF p n l := by
  cases l with
  | nil => exact hn
  | cons k r => intro hf; exact h k (List.mem_cons_self ..) hf.1
theorem seg_next (p : List PLine) (i e : Nat) (h : i < e) (hl : i < p.length) : segZ p i e = p[i] :: segZ p (i + 1) e := by
  unfold segZ
  rw [List.drop_eq_getElem_cons hl, show e - i = (e - (i + 1)) + 1 from by omega, List.take_succ_cons]
theorem seg_end (p : List PLine) (e : Nat) : segZ p e e = [] := by unfold segZ; rw [Nat.sub_self, List.take_zero]
theorem seg_split (p : List PLine) (a e : Nat) (h : a ≤ e) (hl : e < p.length) : p.drop a = segZ p a e ++ p[e] :: p.drop (e + 1) := by
  have h1 := List.take_append_drop (e - a) (p.drop a)
  rw [List.drop_drop, show a + (e - a) = e from by omega, List.drop_eq_getElem_cons hl] at h1
  exact h1.symm
theorem seg_length (p : List PLine) (a e : Nat) (h : a ≤ e) (hl : e ≤ p.length) : (segZ p a e).length = e - a := by
  unfold segZ; rw [List.length_take, List.length_drop]; omega
/-- What a block's end is. -/
theorem end_parts (S : List PLine) (y : PLine) (R : List PLine) : ∀ (o : Int) (i : Nat), 1 ≤ o → endF o i (S ++ y :: R) = ((i + S.length : Nat) : Int) → y.kind = 7 ∧ (nestF o (S ++ y :: R) ↔ nestF o S ∧ nestF 0 R) := by
  induction S with
  | nil =>
    intro o i ho he
    rw [List.nil_append, endF] at he
    have hc := opn_cases y.kind
    by_cases h0 : o + opn y.kind = 0
    · refine ⟨by omega, ?_⟩
      simp only [List.nil_append, nestF, h0]
      simp
    · rw [if_neg h0] at he
      rcases endF_ge R (o + opn y.kind) (i + 1) with h | h
      · rw [he] at h; simp at h <;> omega
      · rw [he] at h; simp at h <;> omega
  | cons z S ih =>
    intro o i ho he
    rw [List.cons_append, endF] at he
    have hc := opn_cases z.kind
    by_cases h0 : o + opn z.kind = 0
    · rw [if_pos h0, List.length_cons] at he; omega
    · rw [if_neg h0, List.length_cons] at he
      obtain ⟨h7, hn⟩ := ih (o + opn z.kind) (i + 1) (by omega) (by rw [he]; omega)
      refine ⟨h7, ?_⟩
      rw [List.cons_append, nestF, nestF, hn]
      exact and_assoc.symm
theorem body_iff (p : List PLine) (k : Nat) (v : List ByteArray) (hk : ∀ j : Nat, j < k → beZ p j < (k : Int)) (S : List PLine) : ∀ (d : Int) (i : Nat), k ≤ i →
    (bodyL p k v d i S ↔ (∀ x ∈ S, x.kind ≠ 0) ∧ nestF (d + 1) S ∧ elsesF p i S ∧ ∀ x ∈ S, ∀ t ∈ x.expr, knownP p v t) := by
  induction S with
  | nil => intro d i _; simp [bodyL, nestF, elsesF]
  | cons z S ih =>
    intro d i hi
    have h1 : (∃ j : Nat, k ≤ j ∧ j < i ∧ elseZ p j = (i : Int)) ↔ ∃ j : Nat, j < i ∧ elseZ p j = (i : Int) := by
      constructor
      · rintro ⟨j, _, h⟩; exact ⟨j, h⟩
      · rintro ⟨j, hj, he⟩
        refine ⟨j, ?_, hj, he⟩
        rcases Nat.lt_or_ge j k with hjk | hjk
        · have h2 := hk j hjk
          have h3 := elseZ_lt p j (by omega)
          omega
        · exact hjk
    rw [bodyL, ih (d + opn z.kind) (i + 1) (by omega), nestF, elsesF, h1, show d + opn z.kind + 1 = d + 1 + opn z.kind from by omega]
    constructor
    · rintro ⟨⟨a, b, c, e⟩, f, g, h, q⟩
      refine ⟨?_, ⟨by omega, g⟩, ⟨b, h⟩, ?_⟩
      · intro x hx
        rcases List.mem_cons.1 hx with rfl | hx
        · exact a
        · exact f x hx
      · intro x hx
        rcases List.mem_cons.1 hx with rfl | hx
        · exact e
        · exact q x hx
    · rintro ⟨f, ⟨c, g⟩, ⟨b, h⟩, q⟩
      exact ⟨⟨f z (List.mem_cons_self ..), b, by omega, q z (List.mem_cons_self ..)⟩, fun x hx => f x (List.mem_cons_of_mem _ hx), g, h, fun x hx => q x (List.mem_cons_of_mem _ hx)⟩
theorem elsesF_app (p : List PLine) (a : List PLine) : ∀ i b, elsesF p i (a ++ b) ↔ elsesF p i a ∧ elsesF p (i + a.length) b := by
  induction a with
  | nil => intro i b; simp [elsesF]
  | cons x r ih =>
    intro i b
    rw [List.cons_append, elsesF, elsesF, ih, List.length_cons, show i + 1 + r.length = i + (r.length + 1) from by omega]
    exact and_assoc.symm
theorem fun_expr (x : PLine) (h : lineB x = true) (h0 : x.kind = 0) : x.expr = [] := by
  have := ((lineB_iff x).1 h).2.2.2
  rw [h0] at this
  have hk : exprK 0 = false := by decide
  rw [hk] at this
  simpa [efB] using this
theorem seg_iff (p : List PLine) (hv : ∀ x ∈ p, lineB x = true) : ∀ (f k : Nat), p.length ≤ k + f → k ≤ p.length → (∀ j : Nat, j < k → beZ p j < (k : Int)) →
    (followS p f k ↔ followF p k (funF k (p.drop k)) ∧ nestF 0 (p.drop k) ∧ elsesF p k (p.drop k) ∧ ∀ j ∈ funF k (p.drop k), namesAt p j) := by
  intro f
  induction f with
  | zero =>
    intro k h1 h2 _
    have : k = p.length := by omega
    subst this
    rw [List.drop_length]
    simp [followS, funF, followF, nestF, elsesF]
  | succ f ih =>
    intro k h1 h2 hend
    by_cases hk : p.length ≤ k
    · have : k = p.length := by omega
      subst this
      rw [List.drop_length]
      simp [followS, funF, followF, nestF, elsesF]
    · have hl : k < p.length := by omega
      rw [followS, if_neg hk, lkZ_at p k hl]
      by_cases h0 : p[k].kind = 0
      · have hop : isOp p[k].kind = true := by rw [h0]; rfl
        have hfun : funF k (p.drop k) = k :: funF (k + 1) (p.drop (k + 1)) := by
          rw [List.drop_eq_getElem_cons hl, funF, if_pos h0]
        rw [hfun, followF]
        by_cases he : 0 ≤ beZ p k
        · obtain ⟨j, hj, hjl, _, hlt, hle⟩ := beZ_is p k he
          have hjk : j = k := by omega
          subst hjk
          obtain ⟨E, hE⟩ := Int.eq_ofNat_of_zero_le he
          have hkE : j < E := by omega
          have hEl : E < p.length := by omega
          have hsplit := seg_split p (j + 1) E (by omega) hEl
          have hend1 := beZ_at p j hl hop
          have hslen := seg_length p (j + 1) E (by omega) (by omega)
          obtain ⟨S, hS⟩ : ∃ S, segZ p (j + 1) E = S := ⟨_, rfl⟩
          rw [hS] at hsplit hslen
          have hpar := end_parts S p[E] (p.drop (E + 1)) 1 (j + 1) (by decide) (by rw [← hsplit, ← hend1, hE]; omega)
          have hfS : funF (j + 1) (p.drop (j + 1)) = funF (j + 1) S ++ funF (E + 1) (p.drop (E + 1)) := by
            rw [hsplit, funF_app]
            congr 1
            rw [funF, if_neg (by rw [hpar.1]; decide), hslen, show j + 1 + (E - (j + 1)) + 1 = E + 1 from by omega]
          have hx : (p.drop j) = p[j] :: (S ++ p[E] :: p.drop (E + 1)) := by rw [List.drop_eq_getElem_cons hl, hsplit]
          have hnest : nestF 0 (p.drop j) ↔ nestF 1 S ∧ nestF 0 (p.drop (E + 1)) := by
            have h1 : opn p[j].kind = 1 := by unfold opn; rw [if_pos hop]
            rw [hx, nestF, h1, ← hpar.2]
            simp
          have hels : elsesF p j (p.drop j) ↔ elsesF p (j + 1) S ∧ elsesF p (E + 1) (p.drop (E + 1)) := by
            rw [hx, elsesF, elsesF_app, elsesF, hslen, show j + 1 + (E - (j + 1)) + 1 = E + 1 from by omega]
            constructor
            · rintro ⟨_, a, _, b⟩; exact ⟨a, b⟩
            · rintro ⟨a, b⟩; exact ⟨fun h => by rw [h0] at h; exact absurd h (by decide), a, fun h => by rw [hpar.1] at h; exact absurd h (by decide), b⟩
          have hnm : namesAt p j ↔ (locZ p j).length ≤ 8 ∧ ∀ x ∈ S, ∀ t ∈ x.expr, knownP p (locZ p j) t := by
            unfold namesAt
            rw [hE, Int.toNat_natCast, seg_next p j E hkE hl, hS]
            constructor
            · rintro ⟨a, b⟩; exact ⟨a, fun x hx => b x (List.mem_cons_of_mem _ hx)⟩
            · rintro ⟨a, b⟩
              refine ⟨a, fun x hx t ht => ?_⟩
              rcases List.mem_cons.1 hx with rfl | hx
              · rw [fun_expr _ (hv _ (List.getElem_mem hl)) h0] at ht; cases ht
              · exact b x hx t ht
          have hbody : bodyOk p j ↔ (locZ p j).length ≤ 8 ∧ (∀ x ∈ S, x.kind ≠ 0) ∧ nestF 1 S ∧ elsesF p (j + 1) S ∧ ∀ x ∈ S, ∀ t ∈ x.expr, knownP p (locZ p j) t := by
            unfold bodyOk
            rw [hE, Int.toNat_natCast, hS, body_iff p j _ hend S 0 (j + 1) (by omega)]
            rfl
          have hIH := ih (E + 1) (by omega) (by omega) (fun i hi => by
            rcases Nat.lt_or_ge i j with h | h
            · have := hend i h; omega
            · by_cases hij : i = j
              · subst hij; omega
              · by_cases hiE : i = E
                · subst hiE
                  rw [beZ_not p i (fun h => by
                    have h3 := h.2.2
                    rw [lkZ_at p i hEl, hpar.1] at h3
                    exact absurd h3 (by decide))]
                  omega
                · by_cases hop' : isOp p[i].kind = true
                  · have := beZ_in p j i he (by omega) (by omega) (by omega) hop'; omega
                  · rw [beZ_not p i (fun h => hop' (by have h3 := h.2.2; rwa [lkZ_at p i (by omega)] at h3))]
                    omega)
          rw [hfS, hnest, hels, hbody, hE, Int.toNat_natCast, hIH]
          by_cases hnone : ∀ x ∈ S, x.kind ≠ 0
          · rw [(funF_none S (j + 1)).2 hnone, List.nil_append]
            constructor
            · rintro ⟨_, _, ⟨a, b, c, d, g⟩, m, n, q, r⟩
              refine ⟨⟨rfl, by omega, m⟩, ⟨c, n⟩, ⟨d, q⟩, fun i hi => ?_⟩
              rcases List.mem_cons.1 hi with rfl | hi
              · exact hnm.2 ⟨a, g⟩
              · exact r i hi
            · rintro ⟨⟨_, _, m⟩, ⟨c, n⟩, ⟨d, q⟩, r⟩
              have := hnm.1 (r j (List.mem_cons_self ..))
              exact ⟨h0, by omega, ⟨this.1, hnone, c, d, this.2⟩, m, n, q, fun i hi => r i (List.mem_cons_of_mem _ hi)⟩
          · constructor
            · rintro ⟨_, _, ⟨_, b, _⟩, _⟩; exact absurd b hnone
            · rintro ⟨⟨_, _, m⟩, _⟩
              exfalso
              cases hq : funF (j + 1) S with
              | nil => exact hnone ((funF_none S (j + 1)).1 hq)
              | cons i r =>
                rw [hq, List.cons_append, followF] at m
                have := funF_ge S (j + 1) i (by rw [hq]; exact List.mem_cons_self ..)
                have := m.1
                omega
        · constructor
          · rintro ⟨_, h, _⟩; exact absurd h he
          · rintro ⟨⟨_, h, _⟩, _⟩; exact absurd h he
      · constructor
        · rintro ⟨h, _⟩; exact absurd h h0
        · rintro ⟨h, _⟩
          refine absurd h (followF_no p k _ (fun j hj => ?_) (by omega))
          rw [List.drop_eq_getElem_cons hl, funF, if_neg h0] at hj
          have := (funF_ge _ _ j hj).1
          omega
theorem funs_mem (l : List PLine) : ∀ i k, k ∈ funF i l ↔ ∃ h : k - i < l.length, i ≤ k ∧ l[k - i].kind = 0 := by
  induction l with
  | nil => intro i k; simp [funF]
  | cons x r ih =>
    intro i k
    have hr : (∃ h : k - (i + 1) < r.length, i + 1 ≤ k ∧ r[k - (i + 1)].kind = 0) ↔ ∃ h : k - i < (x :: r).length, i < k ∧ (x :: r)[k - i].kind = 0 := by
      constructor
      · rintro ⟨h, a, b⟩
        refine ⟨by rw [List.length_cons]; omega, by omega, ?_⟩
        have : k - i = (k - (i + 1)) + 1 := by omega
        simp only [this, List.getElem_cons_succ]
        exact b
      · rintro ⟨h, a, b⟩
        rw [List.length_cons] at h
        have : k - i = (k - (i + 1)) + 1 := by omega
        simp only [this, List.getElem_cons_succ] at b
        exact ⟨by omega, by omega, b⟩
    unfold funF
    by_cases h0 : x.kind = 0
    · rw [if_pos h0, List.mem_cons, ih, hr]
      constructor
      · rintro (rfl | ⟨h, a, b⟩)
        · exact ⟨by rw [Nat.sub_self, List.length_cons]; omega, Nat.le_refl _, by simp only [Nat.sub_self, List.getElem_cons_zero]; exact h0⟩
        · exact ⟨h, by omega, b⟩
      · rintro ⟨h, a, b⟩
        by_cases hk : k = i
        · exact .inl hk
        · exact .inr ⟨h, by omega, b⟩
    · rw [if_neg h0, ih, hr]
      constructor
      · rintro ⟨h, a, b⟩; exact ⟨h, by omega, b⟩
      · rintro ⟨h, a, b⟩
        refine ⟨h, ?_, b⟩
        rcases Nat.lt_or_ge i k with h' | h'
        · exact h'
        · have : k = i := by omega
          subst this
          simp only [Nat.sub_self, List.getElem_cons_zero] at b
          exact absurd b h0
theorem find_zero (p : List PLine) (n : ByteArray) : findZ p n = 0 ↔ ∃ h : 0 < p.length, p[0].kind = 0 ∧ p[0].name = n := by
  cases p with
  | nil => simp [findZ, findF]
  | cons x r =>
    have hg : ∀ (l : List PLine) (i : Nat), findF n i l = -1 ∨ (i : Int) ≤ findF n i l := by
      intro l
      induction l with
      | nil => intro i; exact .inl rfl
      | cons y l ih =>
        intro i
        unfold findF
        split
        · exact .inr (Int.le_refl _)
        · rcases ih (i + 1) with h | h
          · exact .inl h
          · exact .inr (by omega)
    unfold findZ findF
    by_cases h : x.kind = 0 ∧ x.name = n
    · rw [if_pos h]; simp [h]
    · rw [if_neg h]
      have := hg r 1
      constructor
      · intro e; rw [Nat.zero_add] at e; omega
      · rintro ⟨_, h'⟩; exact absurd h' h
theorem ok_iff (p : List PLine) : OkI p ↔ OkS p := by
  have hfun : ∀ k, k ∈ funs p ↔ ∃ h : k < p.length, p[k].kind = 0 := by
    intro k
    unfold funs
    rw [funs_mem p 0 k]
    constructor
    · rintro ⟨h, _, b⟩; exact ⟨h, b⟩
    · rintro ⟨h, b⟩; exact ⟨h, Nat.zero_le _, b⟩
  have hseg : (∀ x ∈ p, lineB x = true) → (followS p p.length 0 ↔ followF p 0 (funs p) ∧ nestF 0 p ∧ elsesF p 0 p ∧ ∀ k ∈ funs p, namesAt p k) := fun hv => by
    have := seg_iff p hv p.length 0 (by omega) (by omega) (fun j hj => by omega)
    rw [List.drop_zero] at this
    exact this
  constructor
  · rintro ⟨⟨h1, h2⟩, ⟨h3, h4, h5, h6⟩, h7⟩
    obtain ⟨hl, hk, hn⟩ := (find_zero p mainT).1 h4
    refine ⟨⟨hl, h1, hk, hn, ?_, h3⟩, fun k h => ⟨h2 _ (List.getElem_mem h), fun h0 => h6 k ((hfun k).2 ⟨h, h0⟩) h⟩, (hseg h2).2 h7⟩
    unfold argsZ at h5
    rw [if_neg (by decide)] at h5
    have : (0 : Int).toNat = 0 := rfl
    rw [this, List.getElem?_eq_getElem hl] at h5
    exact h5
  · rintro ⟨⟨hl, h1, hk, hn, ha, h3⟩, hall, hf⟩
    have hv : ∀ x ∈ p, lineB x = true := fun x hx => by
      obtain ⟨k, h, rfl⟩ := List.mem_iff_getElem.1 hx
      exact (hall k h).1
    refine ⟨⟨h1, hv⟩, ⟨h3, (find_zero p mainT).2 ⟨hl, hk, hn⟩, ?_, fun k hk h => (hall k h).2 ?_⟩, (hseg hv).1 hf⟩
    · unfold argsZ
      rw [if_neg (by decide)]
      have : (0 : Int).toNat = 0 := rfl
      rw [this, List.getElem?_eq_getElem hl]
      exact ha
    · obtain ⟨_, h0⟩ := (hfun k).1 hk
      exact h0
end Go.Proofs.Ytfemkbdgbpgjgaa
