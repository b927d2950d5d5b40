/- Arguments that are rows of tokens, or rows of strings, opened to cells. Nothing of the program. -/
import Derived.Test.YtbdplcbmfcfigaaDoorFieldsPlain
import Derived.Test.YtbdplcbmfcfigaaDoorTokPlain
import Derived.Deep.Slices
import Derived.Deep.Fields
import Derived.ChangeSame
import Derived.SliceStrings
import Derived.Lib.SmallJoins
namespace Go.Proofs.YtbdplcbmfcfigaaDoor
open Go.RowKit Go.Lib Go.ChangeShapes Go.WideShapes Go.Deep

/-- A row of tokens that came in: the tokens l. -/
def ArgT (w : World) (a : Option Addr) (l : List TokL) : Prop :=
  ∀ j (h : j < l.length), ∃ x, a = some x ∧ x.block < w.heap.size ∧ w.cell? (x.add (j * 3)) = some (.int .i64 l[j].kind) ∧ w.cell? ⟨(x.add (j * 3)).block, (x.add (j * 3)).off + 1, none⟩ = some (.int .i64 l[j].num) ∧ w.cell? ⟨(x.add (j * 3)).block, (x.add (j * 3)).off + 2, none⟩ = some (.string l[j].name) ∧
    l[j].name.size ≤ maxLen ∧ (Lit.int .i64 l[j].kind).wf = true ∧ (Lit.int .i64 l[j].num).wf = true
/-- A row of strings that came in. -/
def ArgS (w : World) (a : Option Addr) (l : List ByteArray) : Prop :=
  ∀ j (h : j < l.length), ∃ x, a = some x ∧ x.block < w.heap.size ∧ w.cell? (x.add j) = some (.string l[j]) ∧ l[j].size ≤ maxLen

theorem addr_block (a : Addr) (n : Nat) : (a.add n).block = a.block := by unfold Addr.add; split <;> rfl
theorem add_in (a : Addr) (n i : Nat) : a.add (n + (i + 1)) = ⟨(a.add n).block, (a.add n).off + (i + 1), none⟩ := by
  rw [← Go.Deep.add_add]
  rw [Addr.add, if_neg (by omega)]
theorem ArgT.below {w w' : World} {a : Option Addr} {l : List TokL} (h : ArgT w a l) (hb : Below w.heap.size w w') : ArgT w' a l := by
  intro j hj
  obtain ⟨x, e, hx, c0, c1, c2, r⟩ := h j hj
  exact ⟨x, e, Nat.lt_of_lt_of_le hx hb.size, (hb.cell (by rw [addr_block]; exact hx)).trans c0, (hb.cell (p := ⟨_, _, none⟩) (by rw [addr_block]; exact hx)).trans c1, (hb.cell (p := ⟨_, _, none⟩) (by rw [addr_block]; exact hx)).trans c2, r⟩
theorem ArgS.below {w w' : World} {a : Option Addr} {l : List ByteArray} (h : ArgS w a l) (hb : Below w.heap.size w w') : ArgS w' a l := by
  intro j hj
  obtain ⟨x, e, hx, c0, r⟩ := h j hj
  exact ⟨x, e, Nat.lt_of_lt_of_le hx hb.size, (hb.cell (by rw [addr_block]; exact hx)).trans c0, r⟩

theorem list_of {α : Type} (n : Nat) (Q : Nat → α → Prop) (h : ∀ j, j < n → ∃ t, Q j t) : ∃ l : List α, l.length = n ∧ ∀ j (hj : j < l.length), Q j l[j] := by
  induction n with
  | zero => exact ⟨[], rfl, fun j hj => absurd hj (by simp)⟩
  | succ n ih =>
    obtain ⟨l, hl, hq⟩ := ih (fun j hj => h j (by omega))
    obtain ⟨t, ht⟩ := h n (by omega)
    refine ⟨l ++ [t], by simp [hl], fun j hj => ?_⟩
    by_cases hjn : j < l.length
    · rw [List.getElem_append_left hjn]; exact hq j hjn
    · have : j = n := by simp at hj; omega
      subst this
      simpa [hl] using ht

section
variable {H : Type} {enc : TypeId × Value → H} {P : Program} {w : World} {base : Nat} {spare : Nat → Bool} {held : Bool}
/-- (As the kit's page on structs has it.) -/
theorem open_fields {t e : TypeId} {fs : Array Field} {fuel : Nat} {cs : List Value} {x : DataW H × List MemPlace} (ht : P.underlying t = some (.slice e)) (he : P.underlying e = some (.struct fs))
    (hone : oneCellFields P fs = true) (hC : P.cellsOf e = fs.size) (h : DataW.trod enc P w base spare held fuel t cs = some x) :
    (cs = [.slice none 0 0]) ∨
    ∃ (a : Addr) (len cap m : Nat), cs = [.slice (some a) len cap] ∧ len ≤ cap ∧ cap ≤ maxLen ∧ m = (if spare a.block then cap else len) ∧
      ∀ i, i < m → ∃ (n : Nat), ∀ (j : Nat) (f : Field), fs[j]? = some f → ∃ (v : Value) (y : DataW H × List MemPlace), w.cell? (a.add (i * fs.size + j)) = some v ∧ DataW.trod enc P w base spare held n f.type [v] = some y := by
  rcases open_slice ht h with h0 | ⟨a, len, cap, m, n, D, Pl, hcs, hb, hl, hm, hmm, hx, hi⟩
  · exact .inl h0.1
  · refine .inr ⟨a, len, cap, m, hcs, hl, hm, hmm, fun i him => ?_⟩
    obtain ⟨cs', hc, ht'⟩ := hi i him
    rw [hC] at hc
    obtain ⟨ys, n', hn', hy, hlen, hyl, hf⟩ := DataW.trod_struct he ht'
    obtain ⟨_, hcl, hat⟩ := World.cells?_some hc
    refine ⟨n', fun j f hj => ?_⟩
    obtain ⟨ho, hk⟩ := hone_of hone j f hj
    have hjl : j < fs.size := (Array.getElem?_eq_some_iff.1 hj).1
    have hcell := hat j hjl
    have hv : cs'[j]? = some (cs'[j]'(by omega)) := List.getElem?_eq_getElem (by omega)
    have h1 := hf j f hj
    rw [ho, hk] at h1
    have hone' : (cs'.drop j).take 1 = [cs'[j]'(by omega)] := by
      rw [List.drop_eq_getElem_cons (by omega)]
      rfl
    rw [hone'] at h1
    have hys : ys[j]? = some (ys[j]'(by omega)) := List.getElem?_eq_getElem (by omega)
    refine ⟨_, _, ?_, h1.trans hys⟩
    rw [← Go.Deep.add_add, hcell, hv]

theorem argT_of {t e : TypeId} {f0 f1 f2 : Field} {a : Option Addr} {len cap : Nat} {d : DataW H} {p : List MemPlace} (ht : P.underlying t = some (.slice e)) (he : P.underlying e = some (.struct #[f0, f1, f2]))
    (hone : oneCellFields P #[f0, f1, f2] = true) (hC : P.cellsOf e = 3) (h0 : P.underlying f0.type = some (.int .i64)) (h1 : P.underlying f1.type = some (.int .i64)) (h2 : P.underlying f2.type = some .string)
    (h : DataW.Trod enc P w 0 (fun _ => true) held t (.slice a len cap) d p) : ∃ l : List TokL, l.length = len ∧ len ≤ maxLen ∧ ArgT w a l := by
  obtain ⟨fuel, hf⟩ := h
  rcases open_fields ht he hone hC hf with hcs | ⟨x, len', cap', m, hcs, hl, hm, rfl, hi⟩
  · simp [Value.cells] at hcs
    obtain ⟨rfl, rfl, rfl⟩ := hcs
    exact ⟨[], rfl, by simp [maxLen], fun j hj => absurd hj (by simp)⟩
  · simp [Value.cells] at hcs
    obtain ⟨rfl, rfl, rfl⟩ := hcs
    obtain ⟨l, hll, hq⟩ := list_of len (fun j (t : TokL) => w.cell? (x.add (j * 3)) = some (.int .i64 t.kind) ∧ w.cell? ⟨(x.add (j * 3)).block, (x.add (j * 3)).off + 1, none⟩ = some (.int .i64 t.num) ∧ w.cell? ⟨(x.add (j * 3)).block, (x.add (j * 3)).off + 2, none⟩ = some (.string t.name) ∧ t.name.size ≤ maxLen ∧ (Lit.int .i64 t.kind).wf = true ∧ (Lit.int .i64 t.num).wf = true) (fun j hj => by
      obtain ⟨n, hn⟩ := hi j (by omega)
      obtain ⟨v0, y0, c0, t0⟩ := hn 0 f0 rfl
      obtain ⟨v1, y1, c1, t1⟩ := hn 1 f1 rfl
      obtain ⟨v2, y2, c2, t2⟩ := hn 2 f2 rfl
      obtain ⟨k, e0, _, w0⟩ := DataW.trod_int h0 t0
      obtain ⟨m, e1, _, w1⟩ := DataW.trod_int h1 t1
      obtain ⟨s, e2, _, w2⟩ := DataW.trod_string h2 t2
      injection e0 with e0; injection e1 with e1; injection e2 with e2
      subst e0 e1 e2
      exact ⟨⟨k, m, s⟩, c0, (add_in x (j * 3) 0) ▸ c1, (add_in x (j * 3) 1) ▸ c2, w2, w0, w1⟩)
    exact ⟨l, hll, by omega, fun j hj => ⟨x, rfl, by have := World.block_lt_of_cell? w _ (hq j hj).1; rw [addr_block] at this; exact this, hq j hj⟩⟩

theorem argS_of {t e : TypeId} {a : Option Addr} {len cap : Nat} {d : DataW H} {p : List MemPlace} (ht : P.underlying t = some (.slice e)) (he : P.underlying e = some .string) (hC : P.cellsOf e = 1)
    (h : DataW.Trod enc P w 0 (fun _ => true) held t (.slice a len cap) d p) : ∃ l : List ByteArray, l.length = len ∧ len ≤ maxLen ∧ ArgS w a l := by
  obtain ⟨fuel, hf⟩ := h
  rcases open_strings ht he hC hf with ⟨hcs, _⟩ | ⟨x, len', cap', ss, hcs, _, hl, hm, hss, _, hc, hz⟩
  · simp [Value.cells] at hcs
    obtain ⟨rfl, rfl, rfl⟩ := hcs
    exact ⟨[], rfl, by simp [maxLen], fun j hj => absurd hj (by simp)⟩
  · simp [Value.cells] at hcs
    obtain ⟨rfl, rfl, rfl⟩ := hcs
    simp at hss
    refine ⟨ss.take len, by simp; omega, by omega, fun j hj => ?_⟩
    have hj' : j < ss.length := by simp at hj; omega
    have hce := hc j hj'
    have e : ss.getD j ByteArray.empty = ss[j] := by simp [List.getD, hj']
    rw [e] at hce
    refine ⟨x, rfl, by have := World.block_lt_of_cell? w _ hce; rw [addr_block] at this; exact this, by simpa using hce, ?_⟩
    have : (ss.take len)[j] = ss[j] := by simp
    rw [this]
    exact hz _ (List.getElem_mem _)
end
end Go.Proofs.YtbdplcbmfcfigaaDoor
