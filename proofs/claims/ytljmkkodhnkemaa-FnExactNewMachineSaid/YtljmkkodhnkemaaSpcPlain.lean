/- Address spaces, plain: where a byte is, when a space is one, which function an address belongs to. Nothing of the program. -/
import Derived.Test.YtljmkkodhnkemaaImsPlain
import Derived.Test.YtljmkkodhnkemaaOpDecP
namespace Go.Proofs.Ytljmkkodhnkemaa
open Go.RowKit Go.Lib

theorem symF_found (o : Int) : ∀ (l : List SyL) (q : Nat), (∃ x ∈ l, syIn x o = true) → ∃ (k : Nat) (h : k < l.length), symF o q l = ((q + k : Nat) : Int) ∧ syIn l[k] o = true
  | [], _, h => by obtain ⟨x, hx, _⟩ := h; cases hx
  | x :: r, q, h => by
    cases hb : syIn x o with
    | true => exact ⟨0, by simp, by rw [symF, if_pos hb]; rfl, hb⟩
    | false =>
      obtain ⟨y, hy, hyo⟩ := h
      rcases List.mem_cons.1 hy with rfl | hy
      · rw [hb] at hyo; cases hyo
      · obtain ⟨k, hk, e, hs⟩ := symF_found o r (q + 1) ⟨y, hy, hyo⟩
        exact ⟨k + 1, by simpa using hk, by rw [symF, if_neg (by rw [hb]; decide), e]; congr 1; omega, by simpa using hs⟩
theorem imgF_cover (c : List UInt8) (hc : c.length ≤ 1000000) : ∀ (l : List SyL) (seen : List ByteArray) (a : Nat), imgF c seen a l = true → ∀ o : Int, (a : Int) ≤ o → o < (c.length : Int) → ∃ x ∈ l, syIn x o = true
  | [], seen, a, h, o, h1, h2 => by
    rw [imgF] at h
    have := of_decide_eq_true h
    omega
  | x :: r, seen, a, h, o, h1, h2 => by
    rw [imgF] at h
    simp only [Bool.and_eq_true, decide_eq_true_eq] at h
    obtain ⟨⟨p1, p2, p3⟩, _, _, _, p4⟩ := h
    by_cases ho : o < x.start + x.size
    · refine ⟨x, List.mem_cons_self .., ?_⟩
      unfold syIn
      simp only [Bool.and_eq_true, decide_eq_true_eq]
      omega
    · obtain ⟨y, hy, hs⟩ := imgF_cover c hc r _ _ p4 o (by omega) h2
      exact ⟨y, List.mem_cons_of_mem _ hy, hs⟩
theorem imgB_len {c : List UInt8} {l : List SyL} (h : imgB c l = true) : c.length ≤ 1000000 ∧ imgF c [] 0 l = true := by
  unfold imgB at h
  simpa only [Bool.and_eq_true, decide_eq_true_eq] using h
/-- In an image each byte belongs to a symbol. -/
theorem img_cover {c : List UInt8} {l : List SyL} (h : imgB c l = true) {o : Int} (h0 : 0 ≤ o) (h1 : o < (c.length : Int)) : ∃ (k : Nat) (hk : k < l.length), symZ l o = (k : Int) ∧ 0 ≤ l[k].start ∧ l[k].start ≤ o := by
  obtain ⟨hl, hf⟩ := imgB_len h
  obtain ⟨k, hk, e, hs⟩ := symF_found o l 0 (imgF_cover c hl l [] 0 hf o (by omega) h1)
  refine ⟨k, hk, by unfold symZ; rw [e, Nat.zero_add], ?_⟩
  unfold syIn at hs
  simp only [Bool.and_eq_true, decide_eq_true_eq] at hs
  omega

/-- Where the byte at an address is: its image and its offset; -1 and -1 if there is none. -/
def spotZ (b0 n0 b1 n1 a : Int) : Int × Int :=
  if b0 ≤ a ∧ a < b0 + n0 then (0, a - b0) else if b1 ≤ a ∧ a < b1 + n1 then (1, a - b1) else (-1, -1)
theorem spot_0 {b0 n0 b1 n1 a : Int} (h : b0 ≤ a) (h' : a < b0 + n0) : spotZ b0 n0 b1 n1 a = (0, a - b0) := by unfold spotZ; rw [if_pos ⟨h, h'⟩]
theorem spot_1 {b0 n0 b1 n1 a : Int} (h0 : ¬(b0 ≤ a ∧ a < b0 + n0)) (h : b1 ≤ a) (h' : a < b1 + n1) : spotZ b0 n0 b1 n1 a = (1, a - b1) := by unfold spotZ; rw [if_neg h0, if_pos ⟨h, h'⟩]
theorem spot_no {b0 n0 b1 n1 a : Int} (h0 : ¬(b0 ≤ a ∧ a < b0 + n0)) (h1 : ¬(b1 ≤ a ∧ a < b1 + n1)) : spotZ b0 n0 b1 n1 a = (-1, -1) := by unfold spotZ; rw [if_neg h0, if_neg h1]
theorem spot_cases (b0 n0 b1 n1 a : Int) : (spotZ b0 n0 b1 n1 a = (0, a - b0) ∧ b0 ≤ a ∧ a < b0 + n0) ∨ (spotZ b0 n0 b1 n1 a = (1, a - b1) ∧ b1 ≤ a ∧ a < b1 + n1 ∧ ¬(b0 ≤ a ∧ a < b0 + n0)) ∨ (spotZ b0 n0 b1 n1 a = (-1, -1) ∧ ¬(b0 ≤ a ∧ a < b0 + n0) ∧ ¬(b1 ≤ a ∧ a < b1 + n1)) := by
  by_cases h0 : b0 ≤ a ∧ a < b0 + n0
  · exact .inl ⟨spot_0 h0.1 h0.2, h0⟩
  · by_cases h1 : b1 ≤ a ∧ a < b1 + n1
    · exact .inr (.inl ⟨spot_1 h0 h1.1 h1.2, h1.1, h1.2, h0⟩)
    · exact .inr (.inr ⟨spot_no h0 h1, h0, h1⟩)
/-- The spot as the program has it, and whether there is one. -/
def spotV (p : Int × Int) : Value := if p.1 < 0 then .tuple #[.agg #[.int .i64 0, .int .i64 0], .bool false] else .tuple #[.agg #[.int .i64 p.1, .int .i64 p.2], .bool true]
/-- The offset where the symbol begins that holds an offset. -/
def begZ (l : List SyL) (o : Int) : Int := if symZ l o < 0 then -1 else match l[(symZ l o).toNat]? with
  | some x => x.start
  | none => -1
theorem begZ_at {l : List SyL} {o : Int} {k : Nat} (hk : k < l.length) (h : symZ l o = (k : Int)) : begZ l o = l[k].start := by
  unfold begZ
  rw [h, if_neg (by omega), Int.toNat_natCast, List.getElem?_eq_getElem hk]
theorem begZ_no {l : List SyL} {o : Int} (h : symZ l o < 0) : begZ l o = -1 := by unfold begZ; rw [if_pos h]
theorem symF_lt (o : Int) : ∀ (l : List SyL) (q : Nat), symF o q l = -1 ∨ ∃ k, k < l.length ∧ symF o q l = ((q + k : Nat) : Int)
  | [], _ => .inl rfl
  | x :: r, q => by
    by_cases hb : syIn x o = true
    · exact .inr ⟨0, by simp, by rw [symF, if_pos hb]; rfl⟩
    · rw [symF, if_neg hb]
      rcases symF_lt o r (q + 1) with h | ⟨k, hk, h⟩
      · exact .inl h
      · exact .inr ⟨k + 1, by simpa using hk, by rw [h]; congr 1; omega⟩
theorem symZ_lt (l : List SyL) (o : Int) : symZ l o = -1 ∨ ∃ k, k < l.length ∧ symZ l o = (k : Int) := by
  rcases symF_lt o l 0 with h | ⟨k, hk, h⟩
  · exact .inl h
  · exact .inr ⟨k, hk, by unfold symZ; rw [h, Nat.zero_add]⟩

/-- One image with its base, as a space has it. -/
def okIB (x : ImA) (b : Int) : Bool := imgB x.s.data.toList x.l && (decide (1 ≤ b) && decide (b ≤ 1000000))
def ovB (x0 x1 : ImA) (b0 b1 : Int) : Bool := decide (b0 < b0 + (x0.s.size : Int)) && (decide (b1 < b1 + (x1.s.size : Int)) && (decide (b0 < b1 + (x1.s.size : Int)) && decide (b1 < b0 + (x0.s.size : Int))))
def spA (x0 x1 : ImA) (b0 b1 : Int) (a : Int) : Int × Int := spotZ b0 x0.s.size b1 x1.s.size a
def symsOf (x0 x1 : ImA) (i : Int) : List SyL := if i = 0 then x0.l else x1.l
/-- Is an address the one of the Start of a symbol? -/
def entB (x0 x1 : ImA) (b0 b1 : Int) (e : Int) : Bool := !decide ((spA x0 x1 b0 b1 e).1 < 0) && decide (begZ (symsOf x0 x1 (spA x0 x1 b0 b1 e).1) (spA x0 x1 b0 b1 e).2 = (spA x0 x1 b0 b1 e).2)
def lenB (n m k : Nat) : Bool := decide (n = 2) && (decide (m = 2) && (decide (1 ≤ k) && decide (k ≤ 6)))
def sp2B (x0 x1 : ImA) (b0 b1 : Int) (E : List Int) : Bool := (okIB x0 b0 && okIB x1 b1) && (!ovB x0 x1 b0 b1 && E.all (entB x0 x1 b0 b1))
def spB (I : List ImA) (B E : List Int) : Bool := lenB I.length B.length E.length && match I, B with
  | [x0, x1], [b0, b1] => sp2B x0 x1 b0 b1 E
  | _, _ => false
theorem spB_len {I : List ImA} {B E : List Int} (h : lenB I.length B.length E.length = false) : spB I B E = false := by unfold spB; rw [h]; rfl
theorem lenB_is {n m k : Nat} (h : lenB n m k = true) : n = 2 ∧ m = 2 ∧ 1 ≤ k ∧ k ≤ 6 := by unfold lenB at h; simpa only [Bool.and_eq_true, decide_eq_true_eq] using h
theorem list2 {α : Type} {l : List α} (h : l.length = 2) : ∃ a b, l = [a, b] := by
  match l, h with
  | [a, b], _ => exact ⟨a, b, rfl⟩
theorem spB_two {x0 x1 : ImA} {b0 b1 : Int} {E : List Int} (h : 1 ≤ E.length) (h' : E.length ≤ 6) : spB [x0, x1] [b0, b1] E = sp2B x0 x1 b0 b1 E := by
  unfold spB lenB
  rw [decide_eq_true h, decide_eq_true h']
  rfl
theorem sp2_bad0 {x0 x1 : ImA} {b0 b1 : Int} {E : List Int} (h : okIB x0 b0 = false) : sp2B x0 x1 b0 b1 E = false := by unfold sp2B; rw [h]; rfl
theorem sp2_bad1 {x0 x1 : ImA} {b0 b1 : Int} {E : List Int} (h : okIB x1 b1 = false) : sp2B x0 x1 b0 b1 E = false := by unfold sp2B; rw [h, Bool.and_false]; rfl
theorem sp2_ov {x0 x1 : ImA} {b0 b1 : Int} {E : List Int} (h : ovB x0 x1 b0 b1 = true) : sp2B x0 x1 b0 b1 E = false := by unfold sp2B; rw [h]; simp
theorem sp2_ent {x0 x1 : ImA} {b0 b1 : Int} {E : List Int} (h : E.all (entB x0 x1 b0 b1) = false) : sp2B x0 x1 b0 b1 E = false := by unfold sp2B; rw [h]; simp
theorem sp2_yes {x0 x1 : ImA} {b0 b1 : Int} {E : List Int} (h0 : okIB x0 b0 = true) (h1 : okIB x1 b1 = true) (h2 : ovB x0 x1 b0 b1 = false) (h3 : E.all (entB x0 x1 b0 b1) = true) : sp2B x0 x1 b0 b1 E = true := by unfold sp2B; rw [h0, h1, h2, h3]; rfl
/-- What is known of a space. -/
structure SpIs (x0 x1 : ImA) (b0 b1 : Int) (E : List Int) : Prop where
  i0 : imgB x0.s.data.toList x0.l = true
  i1 : imgB x1.s.data.toList x1.l = true
  l0 : 1 ≤ b0
  u0 : b0 ≤ 1000000
  l1 : 1 ≤ b1
  u1 : b1 ≤ 1000000
  ov : ovB x0 x1 b0 b1 = false
  en : ∀ e ∈ E, entB x0 x1 b0 b1 e = true
theorem sp2_is {x0 x1 : ImA} {b0 b1 : Int} {E : List Int} (h : sp2B x0 x1 b0 b1 E = true) : SpIs x0 x1 b0 b1 E := by
  unfold sp2B okIB at h
  simp only [Bool.and_eq_true, decide_eq_true_eq, Bool.not_eq_true', List.all_eq_true] at h
  obtain ⟨⟨⟨a, b, c⟩, d, e, f⟩, g, k⟩ := h
  exact ⟨a, d, b, c, e, f, g, k⟩
theorem spB_is {I : List ImA} {B E : List Int} (h : spB I B E = true) : ∃ x0 x1 b0 b1, I = [x0, x1] ∧ B = [b0, b1] ∧ 1 ≤ E.length ∧ E.length ≤ 6 ∧ SpIs x0 x1 b0 b1 E := by
  have hl : lenB I.length B.length E.length = true := by
    cases hq : lenB I.length B.length E.length with
    | true => rfl
    | false => rw [spB_len hq] at h; exact h.symm ▸ rfl
  obtain ⟨h1, h2, h3, h4⟩ := lenB_is hl
  obtain ⟨x0, x1, rfl⟩ := list2 h1
  obtain ⟨b0, b1, rfl⟩ := list2 h2
  rw [spB_two h3 h4] at h
  exact ⟨x0, x1, b0, b1, rfl, rfl, h3, h4, sp2_is h⟩
theorem SpIs.size0 {x0 x1 : ImA} {b0 b1 : Int} {E : List Int} (h : SpIs x0 x1 b0 b1 E) : x0.s.size ≤ 1000000 := by have := (imgB_len h.i0).1; rwa [list_len] at this
theorem SpIs.size1 {x0 x1 : ImA} {b0 b1 : Int} {E : List Int} (h : SpIs x0 x1 b0 b1 E) : x1.s.size ≤ 1000000 := by have := (imgB_len h.i1).1; rwa [list_len] at this
/-- A spot's offset lies in its image. -/
theorem SpIs.spot {x0 x1 : ImA} {b0 b1 : Int} {E : List Int} (h : SpIs x0 x1 b0 b1 E) {a i o : Int} (hs : spA x0 x1 b0 b1 a = (i, o)) (hi : 0 ≤ i) : (i = 0 ∨ i = 1) ∧ ∃ (k : Nat) (hk : k < (symsOf x0 x1 i).length), symZ (symsOf x0 x1 i) o = (k : Int) ∧ 0 ≤ ((symsOf x0 x1 i)[k]).start ∧ ((symsOf x0 x1 i)[k]).start ≤ o := by
  unfold spA at hs
  rcases spot_cases b0 x0.s.size b1 x1.s.size a with ⟨e, h1, h2⟩ | ⟨e, h1, h2, _⟩ | ⟨e, _⟩
  · rw [e] at hs
    injection hs with e1 e2
    subst e1 e2
    refine ⟨.inl rfl, ?_⟩
    have := img_cover h.i0 (o := a - b0) (by omega) (by rw [list_len]; omega)
    simpa [symsOf] using this
  · rw [e] at hs
    injection hs with e1 e2
    subst e1 e2
    refine ⟨.inr rfl, ?_⟩
    have := img_cover h.i1 (o := a - b1) (by omega) (by rw [list_len]; omega)
    simpa [symsOf] using this
  · rw [e] at hs
    injection hs with e1 e2
    omega
/-- A spot of a space is that of one address alone. -/
theorem SpIs.spot_eq {x0 x1 : ImA} {b0 b1 : Int} {E : List Int} (h : SpIs x0 x1 b0 b1 E) {a i o st : Int} (hs : spA x0 x1 b0 b1 a = (i, o)) (hi : 0 ≤ i) (h0 : 0 ≤ st) (h1 : st ≤ o) (e : Int) :
    spA x0 x1 b0 b1 e = (i, st) ↔ e = (if i = 0 then b0 else b1) + st := by
  have hov : ¬(b0 < b0 + (x0.s.size : Int) ∧ b1 < b1 + (x1.s.size : Int) ∧ b0 < b1 + (x1.s.size : Int) ∧ b1 < b0 + (x0.s.size : Int)) := fun hh => by
    have hv := h.ov
    unfold ovB at hv
    rw [decide_eq_true hh.1, decide_eq_true hh.2.1, decide_eq_true hh.2.2.1, decide_eq_true hh.2.2.2] at hv
    cases hv
  unfold spA at hs ⊢
  rcases spot_cases b0 x0.s.size b1 x1.s.size a with ⟨e1, p1, p2⟩ | ⟨e1, p1, p2, p3⟩ | ⟨e1, _⟩
  · rw [e1] at hs
    injection hs with q1 q2
    subst q1 q2
    rw [if_pos rfl]
    rcases spot_cases b0 x0.s.size b1 x1.s.size e with ⟨e2, r1, r2⟩ | ⟨e2, r1, r2, r3⟩ | ⟨e2, r1, r2⟩
    · rw [e2]; constructor
      · intro hh; injection hh with _ hh; omega
      · intro hh; rw [hh]; congr 1; omega
    · rw [e2]; constructor
      · intro hh; injection hh with hh _; omega
      · intro hh; omega
    · rw [e2]; constructor
      · intro hh; injection hh with hh _; omega
      · intro hh; omega
  · rw [e1] at hs
    injection hs with q1 q2
    subst q1 q2
    rw [if_neg (by decide)]
    rcases spot_cases b0 x0.s.size b1 x1.s.size e with ⟨e2, r1, r2⟩ | ⟨e2, r1, r2, r3⟩ | ⟨e2, r1, r2⟩
    · rw [e2]; constructor
      · intro hh; injection hh with hh _; omega
      · intro hh; omega
    · rw [e2]; constructor
      · intro hh; injection hh with _ hh; omega
      · intro hh; rw [hh]; congr 1; omega
    · rw [e2]; constructor
      · intro hh; injection hh with hh _; omega
      · intro hh; omega
  · rw [e1] at hs
    injection hs with q1 q2
    omega

/-- Locate, FetchOp, FunctionAt, plain. -/
def slocZ (I : List ImA) (B E : List Int) (a : Int) : Int × Int := match spB I B E, I, B with
  | true, [x0, x1], [b0, b1] => spA x0 x1 b0 b1 a
  | _, _, _ => (-1, -1)
def fetZ (I : List ImA) (B E : List Int) (a : Int) : Option (OpL × Nat) := match spB I B E, I, B with
  | true, [x0, x1], [b0, b1] => if (spA x0 x1 b0 b1 a).1 < 0 then none else decZ (if (spA x0 x1 b0 b1 a).1 = 0 then x0 else x1).s.data.toList (spA x0 x1 b0 b1 a).2
  | _, _, _ => none
def idxF (v : Int) : Nat → List Int → Int
  | _, [] => -1
  | k, x :: r => if x = v then (k : Int) else idxF v (k + 1) r
theorem idxF_at (v : Int) (E : List Int) (k : Nat) (h : k < E.length) : idxF v k (E.drop k) = if E[k] = v then (k : Int) else idxF v (k + 1) (E.drop (k + 1)) := by rw [List.drop_eq_getElem_cons h]; rfl
theorem idxF_out (v : Int) (E : List Int) (k : Nat) (h : E.length ≤ k) : idxF v k (E.drop k) = -1 := by rw [List.drop_eq_nil_of_le h]; rfl
def funZ (I : List ImA) (B E : List Int) (a : Int) : Int := match spB I B E, I, B with
  | true, [x0, x1], [b0, b1] => if (spA x0 x1 b0 b1 a).1 < 0 then -1 else idxF ((if (spA x0 x1 b0 b1 a).1 = 0 then b0 else b1) + begZ (symsOf x0 x1 (spA x0 x1 b0 b1 a).1) (spA x0 x1 b0 b1 a).2) 0 E
  | _, _, _ => -1
theorem slocZ_no {I : List ImA} {B E : List Int} {a : Int} (h : spB I B E = false) : slocZ I B E a = (-1, -1) := by unfold slocZ; rw [h]
theorem fetZ_no {I : List ImA} {B E : List Int} {a : Int} (h : spB I B E = false) : fetZ I B E a = none := by unfold fetZ; rw [h]
theorem funZ_no {I : List ImA} {B E : List Int} {a : Int} (h : spB I B E = false) : funZ I B E a = -1 := by unfold funZ; rw [h]
theorem slocZ_yes {x0 x1 : ImA} {b0 b1 : Int} {E : List Int} {a : Int} (h : spB [x0, x1] [b0, b1] E = true) : slocZ [x0, x1] [b0, b1] E a = spA x0 x1 b0 b1 a := by unfold slocZ; rw [h]
theorem fetZ_yes {x0 x1 : ImA} {b0 b1 : Int} {E : List Int} {a : Int} (h : spB [x0, x1] [b0, b1] E = true) : fetZ [x0, x1] [b0, b1] E a = if (spA x0 x1 b0 b1 a).1 < 0 then none else decZ (if (spA x0 x1 b0 b1 a).1 = 0 then x0 else x1).s.data.toList (spA x0 x1 b0 b1 a).2 := by unfold fetZ; rw [h]
theorem funZ_yes {x0 x1 : ImA} {b0 b1 : Int} {E : List Int} {a : Int} (h : spB [x0, x1] [b0, b1] E = true) : funZ [x0, x1] [b0, b1] E a = if (spA x0 x1 b0 b1 a).1 < 0 then -1 else idxF ((if (spA x0 x1 b0 b1 a).1 = 0 then b0 else b1) + begZ (symsOf x0 x1 (spA x0 x1 b0 b1 a).1) (spA x0 x1 b0 b1 a).2) 0 E := by unfold funZ; rw [h]
end Go.Proofs.Ytljmkkodhnkemaa
