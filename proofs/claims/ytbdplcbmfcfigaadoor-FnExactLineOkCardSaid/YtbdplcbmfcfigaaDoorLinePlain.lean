/- Lines: which are valid, their texts, and what is read from a text. Nothing of the program. -/
import Derived.Test.YtbdplcbmfcfigaaDoorPexPlain
import Derived.Test.YtbdplcbmfcfigaaDoorJoinPlain
import Derived.Test.YtbdplcbmfcfigaaDoorFieldsAgainPlain
namespace Go.Proofs.YtbdplcbmfcfigaaDoor
open Go.RowKit Go.Lib

/-- A line: kind, name, arguments, expression. -/
structure PLine where
  kind : Int
  name : ByteArray
  args : List ByteArray
  expr : List TokL
def zeroL : PLine := ⟨0, ⟨#[]⟩, [], []⟩
/-- The word of a kind. -/
def wordZ (k : Int) : ByteArray :=
  if k = 0 then ⟨#[102, 117, 110]⟩ else if k = 1 then ⟨#[115, 101, 116]⟩ else if k = 2 then ⟨#[111, 117, 116]⟩ else if k = 3 then ⟨#[105, 102]⟩ else if k = 4 then ⟨#[101, 108, 115, 101]⟩
  else if k = 5 then ⟨#[119, 104, 105, 108, 101]⟩ else if k = 6 then ⟨#[114, 101, 116, 117, 114, 110]⟩ else ⟨#[101, 110, 100]⟩
/-- The kind of a word; -1 if it is none. -/
def kindZ (s : ByteArray) : Int :=
  if s = wordZ 0 then 0 else if s = wordZ 1 then 1 else if s = wordZ 2 then 2 else if s = wordZ 3 then 3 else if s = wordZ 4 then 4
  else if s = wordZ 5 then 5 else if s = wordZ 6 then 6 else if s = wordZ 7 then 7 else -1
def namedB (k : Int) : Bool := decide (k = 0) || decide (k = 1)
def exprK (k : Int) : Bool := !(decide (k = 0)) && (!(decide (k = 4)) && !(decide (k = 7)))
/-- Names, all different. -/
def diffB (l : List ByteArray) : Bool := l.all nameB && decide l.Nodup
def nfB (named : Bool) (s : ByteArray) : Bool := if named = true then nameB s else decide (s.size = 0)
def afB (on : Bool) (l : List ByteArray) : Bool := if on = true then decide (l.length ≤ 4) && diffB l else decide (l.length = 0)
def efB (on : Bool) (l : List TokL) : Bool := if on = true then exprB l else decide (l.length = 0)
def lineB (x : PLine) : Bool := (decide (0 ≤ x.kind) && decide (x.kind ≤ 7)) && (nfB (namedB x.kind) x.name && (afB (decide (x.kind = 0)) x.args && efB (exprK x.kind) x.expr))
theorem lineB_iff (x : PLine) : lineB x = true ↔ (0 ≤ x.kind ∧ x.kind ≤ 7) ∧ nfB (namedB x.kind) x.name = true ∧ afB (decide (x.kind = 0)) x.args = true ∧ efB (exprK x.kind) x.expr = true := by
  unfold lineB
  simp only [Bool.and_eq_true, decide_eq_true_eq]
theorem lineB_out (x : PLine) (h : x.kind < 0 ∨ 7 < x.kind) : lineB x = false := by
  cases hb : lineB x with
  | false => rfl
  | true => have := ((lineB_iff x).1 hb).1; omega
theorem diffB_iff (l : List ByteArray) : diffB l = true ↔ (∀ s ∈ l, nameB s = true) ∧ l.Nodup := by
  unfold diffB
  rw [Bool.and_eq_true, List.all_eq_true, decide_eq_true_eq]
theorem diffB_take (l : List ByteArray) (k : Nat) (h : diffB l = true) : diffB (l.take k) = true := by
  rw [diffB_iff] at h ⊢
  exact ⟨fun s hs => h.1 s (List.mem_of_mem_take hs), h.2.sublist (List.take_sublist k l)⟩
theorem diffB_next (l : List ByteArray) (k : Nat) (hk : k < l.length) (h : diffB (l.take k) = true) (hn : nameB l[k] = true) (hc : l[k] ∉ l.take k) : diffB (l.take (k + 1)) = true := by
  rw [diffB_iff] at h ⊢
  rw [List.take_succ_eq_append_getElem hk]
  refine ⟨fun s hs => ?_, ?_⟩
  · rcases List.mem_append.1 hs with hs | hs
    · exact h.1 s hs
    · rw [List.mem_singleton] at hs; rw [hs]; exact hn
  · rw [List.nodup_append]
    refine ⟨h.2, by simp, fun a ha b hb e => ?_⟩
    rw [List.mem_singleton] at hb
    subst hb e
    exact hc ha
theorem diffB_bad (l : List ByteArray) (k : Nat) (hk : k < l.length) (h : nameB l[k] = false ∨ l[k] ∈ l.take k) : diffB l = false := by
  cases hd : diffB l with
  | false => rfl
  | true =>
    have h1 := (diffB_iff _).1 (diffB_take l (k + 1) hd)
    rw [List.take_succ_eq_append_getElem hk] at h1
    rcases h with h | h
    · have := h1.1 l[k] (List.mem_append.2 (.inr (List.mem_singleton.2 rfl)))
      rw [h] at this; cases this
    · have := (List.nodup_append.1 h1.2).2.2 _ h l[k] (by simp)
      exact absurd rfl this
/-- A space, and the bytes. -/
def spc (s : ByteArray) : List UInt8 := 32 :: s.data.toList
/-- The bytes of a valid line's text. -/
def lnB (x : PLine) : List UInt8 := (wordZ x.kind).data.toList ++ ((if x.name.size = 0 then [] else spc x.name) ++ (x.args.flatMap spc ++ (if x.expr.length = 0 then [] else 32 :: jn x.expr)))
def lineT (x : PLine) : ByteArray := if lineB x = true then ⟨(lnB x).toArray⟩ else ⟨#[]⟩
theorem lineT_no (x : PLine) (h : lineB x = false) : lineT x = ⟨#[]⟩ := by unfold lineT; rw [h]; rfl
theorem lineT_yes (x : PLine) (h : lineB x = true) : lineT x = ⟨(lnB x).toArray⟩ := by unfold lineT; rw [if_pos h]
theorem wordZ_len (k : Int) : 2 ≤ (wordZ k).size ∧ (wordZ k).size ≤ 6 := by
  unfold wordZ
  repeat' split
  all_goals decide
theorem lnB_pos (x : PLine) : 0 < (lnB x).length := by
  have := (wordZ_len x.kind).1
  unfold lnB
  rw [List.length_append, list_len]
  omega
theorem lineT_some (x : PLine) (h : 0 < (lineT x).size) : lineB x = true := by
  cases hb : lineB x with
  | true => rfl
  | false => rw [lineT_no x hb] at h; exact absurd h (by decide)
/-- The line's words, the expression as one. -/
def wordsL (x : PLine) : List ByteArray := [wordZ x.kind] ++ ((if x.name.size = 0 then [] else [x.name]) ++ (x.args ++ (if x.expr.length = 0 then [] else [⟨(jn x.expr).toArray⟩])))
/-- The line's fields. -/
def fieldsL (x : PLine) : List ByteArray := [wordZ x.kind] ++ ((if x.name.size = 0 then [] else [x.name]) ++ (x.args ++ fmtsL x.expr))
theorem tail_spc (l : List ByteArray) : joinTail [32] (bytesOf l) = l.flatMap spc := by
  induction l with
  | nil => rfl
  | cons a r ih =>
    show joinTail [32] (a.data.toList :: bytesOf r) = _
    rw [List.flatMap_cons, ← ih]
    rfl
theorem join_words (a : ByteArray) (l : List ByteArray) : Lib.join (bytesOf (a :: l)) [32] = a.data.toList ++ l.flatMap spc := by
  show Lib.join (a.data.toList :: bytesOf l) [32] = _
  rw [join_cons, tail_spc]
theorem jn_words (l : List TokL) (h : 0 < l.length) : 32 :: jn l = (fmtsL l).flatMap spc := by
  cases l with
  | nil => simp at h
  | cons t r =>
    show 32 :: Lib.join ((fmtT t).data.toList :: bytesOf (fmtsL r)) [32] = (fmtT t :: fmtsL r).flatMap spc
    rw [join_cons, tail_spc, List.flatMap_cons]
    rfl
theorem lnB_words (x : PLine) : Lib.join (bytesOf (wordsL x)) [32] = lnB x := by
  unfold wordsL lnB
  rw [List.singleton_append, join_words]
  congr 1
  rw [List.flatMap_append, List.flatMap_append]
  congr 1
  · split <;> simp
  · congr 1
    split
    · rfl
    · simp [spc]
theorem lnB_fields (x : PLine) : lnB x = (wordZ x.kind).data.toList ++ ((if x.name.size = 0 then [] else [x.name]) ++ (x.args ++ fmtsL x.expr)).flatMap spc := by
  unfold lnB
  congr 1
  rw [List.flatMap_append, List.flatMap_append]
  congr 1
  · split <;> simp
  · congr 1
    by_cases h : x.expr.length = 0
    · rw [if_pos h, List.length_eq_zero_iff.1 h]; rfl
    · rw [if_neg h, jn_words _ (by omega)]
theorem fl_words (a : List UInt8) (l : List ByteArray) (ha : a ≠ [] ∧ ∀ c ∈ a, c ≠ 32) (h : ∀ f ∈ l, f.size ≠ 0 ∧ ∀ c ∈ f.data.toList, c ≠ 32) : fl [] (a ++ l.flatMap spc) = a :: bytesOf l := by
  induction l generalizing a with
  | nil =>
    have e : ∀ (f cur : List UInt8), (∀ c ∈ f, c ≠ 32) → fl cur f = oneL (cur ++ f) := by
      intro f
      induction f with
      | nil => intro cur _; simp [fl]
      | cons c r ih =>
        intro cur hc
        rw [fl, if_neg (hc c (by simp)), ih _ (fun x hx => hc x (by simp [hx]))]
        simp
    rw [List.flatMap_nil, List.append_nil, e a [] ha.2, List.nil_append]
    simp [oneL, ha.1, bytesOf]
  | cons f r ih =>
    have hf := h f (by simp)
    have hfn : f.data.toList ≠ [] := fun e => hf.1 (by rw [← list_len, e]; rfl)
    rw [List.flatMap_cons]
    show fl [] (a ++ (32 :: f.data.toList ++ r.flatMap spc)) = _
    rw [List.cons_append, fl_field a [] _ ha.2, ih f.data.toList ⟨hfn, hf.2⟩ (fun g hg => h g (by simp [hg]))]
    simp [oneL, ha.1, bytesOf]

theorem opB_ok (k : Int) : 33 ≤ (opB k).toNat ∧ (opB k).toNat ≤ 126 := by
  unfold opB
  repeat' split
  all_goals decide
/-- Bytes of a word: neither spaces nor outside the range. -/
def wdB (s : ByteArray) : Prop := s.size ≠ 0 ∧ ∀ c ∈ s.data.toList, 33 ≤ c.toNat ∧ c.toNat ≤ 126
theorem wdB_name (s : ByteArray) (h : nameB s = true) : wdB s := by
  refine ⟨by have := (nameB_size s h).1; omega, fun c hc => ?_⟩
  have := low_all s h c hc
  omega
theorem wdB_num (n : Int) (h0 : 0 ≤ n) (h9 : n ≤ 999) : wdB (numT n) := by
  obtain ⟨m, rfl⟩ := Int.eq_ofNat_of_zero_le h0
  have e : itoa (m : Int) = decDigits m := by simp [itoa]
  refine ⟨?_, fun c hc => ?_⟩
  · intro e0
    have h1 : (numT (m : Int)).data.toList.length = 0 := by rw [list_len]; exact e0
    unfold numT at h1
    simp only [e] at h1
    have h2 : decDigits m = [] := List.length_eq_zero_iff.1 h1
    unfold decDigits at h2
    split at h2
    · cases h2
    · simp at h2
  · unfold numT at hc
    simp only [e] at hc
    have := digits_all m c hc
    omega
theorem wdB_app (a b : ByteArray) (ha : wdB a) (hb : ∀ c ∈ b.data.toList, 33 ≤ c.toNat ∧ c.toNat ≤ 126) : wdB (a ++ b) := by
  refine ⟨by rw [ByteArray.size_append]; have := ha.1; omega, fun c hc => ?_⟩
  rw [app_list] at hc
  rcases List.mem_append.1 hc with h | h
  · exact ha.2 c h
  · exact hb c h
theorem wdB_tok (t : TokL) (h : tokB t = true) : wdB (fmtT t) := by
  obtain ⟨k, n, s⟩ := t
  by_cases h0 : k = 0
  · subst h0
    rw [fmtT_0 n s h]
    have := tok_0 n s h
    exact wdB_num n this.1 this.2.1
  by_cases h1 : k = 1
  · subst h1
    rw [fmtT_1 n s h]
    exact wdB_name s (tok_1 n s h).2
  by_cases h7 : k = 7
  · subst h7
    rw [fmtT_7 n s h]
    have := tok_7 n s h
    exact wdB_app _ _ (wdB_app _ _ (wdB_name s this.2.2) (by intro c hc; simp at hc; subst hc; decide)) (wdB_num n this.1 (by omega)).2
  · rw [fmtT_op k n s h h0 h1 h7]
    refine ⟨by show (1 : Nat) ≠ 0; decide, fun c hc => ?_⟩
    simp at hc
    subst hc
    exact opB_ok k
theorem wdB_word (k : Int) : wdB (wordZ k) := by
  unfold wordZ
  repeat' split
  all_goals exact ⟨by decide, by decide⟩

theorem nf_no (s : ByteArray) (h : nfB false s = true) : s = ⟨#[]⟩ := by
  unfold nfB at h
  rw [if_neg (by decide), decide_eq_true_eq] at h
  exact empty_of s h
theorem nf_size (b : Bool) (s : ByteArray) (h : nfB b s = true) : s.size ≤ 8 := by
  cases b
  · rw [nf_no s h]; decide
  · exact (nameB_size s (by simpa [nfB] using h)).2.1
theorem af_small (b : Bool) (l : List ByteArray) (h : afB b l = true) : l.length ≤ 4 ∧ diffB l = true := by
  cases b
  · simp [afB] at h; subst h; exact ⟨by simp, rfl⟩
  · simpa [afB] using h
theorem ef_small (b : Bool) (l : List TokL) (h : efB b l = true) : l.length ≤ 20 ∧ (l = [] ∨ exprB l = true) := by
  cases b
  · simp [efB] at h; subst h; exact ⟨by simp, .inl rfl⟩
  · have h : exprB l = true := by simpa [efB] using h
    exact ⟨(expr_len l h).2, .inr h⟩
theorem flat_len (l : List ByteArray) (n : Nat) (h : ∀ s ∈ l, s.size ≤ n) : (l.flatMap spc).length ≤ l.length * (n + 1) := by
  induction l with
  | nil => simp
  | cons a r ih =>
    have h1 := h a (by simp)
    have h2 := ih (fun s hs => h s (by simp [hs]))
    rw [List.flatMap_cons, List.length_append]
    simp only [spc, List.length_cons, list_len, Nat.add_mul, Nat.one_mul] at h2 ⊢
    omega
theorem jn_size (l : List TokL) (h : l.length ≤ 20) : (jn l).length ≤ 400 := by
  have := jn_len l l.length (Nat.le_refl _)
  rw [List.take_of_length_le (Nat.le_refl _)] at this
  omega
/-- A valid line's text is short. -/
theorem lnB_len (x : PLine) (h : lineB x = true) : (lnB x).length ≤ 460 := by
  obtain ⟨_, h1, h2, h3⟩ := (lineB_iff x).1 h
  have a1 := nf_size _ _ h1
  obtain ⟨a2, a3⟩ := af_small _ _ h2
  have a4 := ef_small _ _ h3
  have a5 := flat_len x.args 8 (fun s hs => (nameB_size s (((diffB_iff _).1 a3).1 s hs)).2.1)
  have a6 := jn_size x.expr a4.1
  have a7 := (wordZ_len x.kind).2
  unfold lnB
  simp only [List.length_append, list_len]
  have b1 : (if x.name.size = 0 then [] else spc x.name).length ≤ 9 := by
    split
    · simp
    · simp only [spc, List.length_cons, list_len]; omega
  have b2 : (if x.expr.length = 0 then [] else 32 :: jn x.expr).length ≤ 401 := by
    split
    · simp
    · simp only [List.length_cons]; omega
  omega
theorem lineT_size (x : PLine) : (lineT x).size ≤ 460 := by
  cases h : lineB x with
  | false => rw [lineT_no x h]; decide
  | true => rw [lineT_yes x h]; exact lnB_len x h
end Go.Proofs.YtbdplcbmfcfigaaDoor
