/- Arguments that are lines, or rows of lines, opened to cells; and lines of the program's own in memory. Nothing of the program. -/
import Derived.Test.YtbdplcbmfcfigaaDoorTokArg
import Derived.Test.YtbdplcbmfcfigaaDoorLinePlain
import Derived.Test.YtbdplcbmfcfigaaDoorLnPlain
namespace Go.Proofs.YtbdplcbmfcfigaaDoor
open Go.RowKit Go.Lib Go.ChangeShapes Go.WideShapes Go.Deep

/-- A line that came in. -/
structure ALine where
  p : PLine
  aa : Option Addr
  ca : Nat
  ae : Option Addr
  ce : Nat
def alA (x : ALine) : Value := .agg #[.int .i64 x.p.kind, .string x.p.name, .slice x.aa x.p.args.length x.ca, .slice x.ae x.p.expr.length x.ce]
def ArgLn (w : World) (x : ALine) : Prop :=
  (ArgS w x.aa x.p.args ∧ ArgT w x.ae x.p.expr) ∧ x.p.args.length ≤ maxLen ∧ x.p.expr.length ≤ maxLen ∧ x.p.name.size ≤ maxLen ∧ (Lit.int .i64 x.p.kind).wf = true
theorem ArgLn.below {w w' : World} {x : ALine} (h : ArgLn w x) (hb : Below w.heap.size w w') : ArgLn w' x := ⟨⟨h.1.1.below hb, h.1.2.below hb⟩, h.2⟩
/-- A row of lines that came in. -/
def ArgLs (w : World) (a : Option Addr) (l : List ALine) : Prop :=
  ∀ j (h : j < l.length), ∃ x, a = some x ∧ x.block < w.heap.size ∧ w.cell? (x.add (j * 4)) = some (.int .i64 l[j].p.kind) ∧ w.cell? ⟨(x.add (j * 4)).block, (x.add (j * 4)).off + 1, none⟩ = some (.string l[j].p.name) ∧
    w.cell? ⟨(x.add (j * 4)).block, (x.add (j * 4)).off + 2, none⟩ = some (.slice l[j].aa l[j].p.args.length l[j].ca) ∧ w.cell? ⟨(x.add (j * 4)).block, (x.add (j * 4)).off + 3, none⟩ = some (.slice l[j].ae l[j].p.expr.length l[j].ce) ∧ ArgLn w l[j]
theorem ArgLs.below {w w' : World} {a : Option Addr} {l : List ALine} (h : ArgLs w a l) (hb : Below w.heap.size w w') : ArgLs w' a l := by
  intro j hj
  obtain ⟨x, e, hx, c0, c1, c2, c3, r⟩ := h j hj
  exact ⟨x, e, Nat.lt_of_lt_of_le hx hb.size, (hb.cell (by rw [addr_block]; exact hx)).trans c0, (hb.cell (p := ⟨_, _, none⟩) (by rw [addr_block]; exact hx)).trans c1, (hb.cell (p := ⟨_, _, none⟩) (by rw [addr_block]; exact hx)).trans c2, (hb.cell (p := ⟨_, _, none⟩) (by rw [addr_block]; exact hx)).trans c3, r.below hb⟩

section
variable {H : Type} {enc : TypeId × Value → H} {P : Program} {w : World} {base : Nat} {spare : Nat → Bool} {held : Bool}
theorem argT_at {t e : TypeId} {f0 f1 f2 : Field} {v : Value} {fuel : Nat} {y : DataW H × List MemPlace} (ht : P.underlying t = some (.slice e)) (he : P.underlying e = some (.struct #[f0, f1, f2]))
    (hone : oneCellFields P #[f0, f1, f2] = true) (hC : P.cellsOf e = 3) (h0 : P.underlying f0.type = some (.int .i64)) (h1 : P.underlying f1.type = some (.int .i64)) (h2 : P.underlying f2.type = some .string)
    (h : DataW.trod enc P w 0 (fun _ => true) held fuel t [v] = some y) : ∃ (a : Option Addr) (c : Nat) (l : List TokL), v = .slice a l.length c ∧ l.length ≤ maxLen ∧ ArgT w a l := by
  have hv : ∃ a n c, v = .slice a n c := by
    rcases open_slice ht h with h0 | ⟨a, len, cap, m, n, D, Pl, hcs, _⟩
    · have := h0.1; simp at this; exact ⟨_, _, _, this⟩
    · simp at hcs; exact ⟨_, _, _, hcs⟩
  obtain ⟨a, n, c, rfl⟩ := hv
  obtain ⟨l, hl, hm, ha⟩ := argT_of (d := y.1) (p := y.2) ht he hone hC h0 h1 h2 ⟨fuel, by simpa [Value.cells] using h⟩
  subst hl
  exact ⟨a, c, l, rfl, hm, ha⟩
theorem argS_at {t e : TypeId} {v : Value} {fuel : Nat} {y : DataW H × List MemPlace} (ht : P.underlying t = some (.slice e)) (he : P.underlying e = some .string) (hC : P.cellsOf e = 1)
    (h : DataW.trod enc P w 0 (fun _ => true) held fuel t [v] = some y) : ∃ (a : Option Addr) (c : Nat) (l : List ByteArray), v = .slice a l.length c ∧ l.length ≤ maxLen ∧ ArgS w a l := by
  have hv : ∃ a n c, v = .slice a n c := by
    rcases open_slice ht h with h0 | ⟨a, len, cap, m, n, D, Pl, hcs, _⟩
    · have := h0.1; simp at this; exact ⟨_, _, _, this⟩
    · simp at hcs; exact ⟨_, _, _, hcs⟩
  obtain ⟨a, n, c, rfl⟩ := hv
  obtain ⟨l, hl, hm, ha⟩ := argS_of (d := y.1) (p := y.2) ht he hC ⟨fuel, by simpa [Value.cells] using h⟩
  subst hl
  exact ⟨a, c, l, rfl, hm, ha⟩
/-- The four fields of a line, opened. -/
theorem argLn_at {tI tS tA eA tE eE : TypeId} {f0 f1 f2 : Field} {v0 v1 v2 v3 : Value} {n : Nat} {y0 y1 y2 y3 : DataW H × List MemPlace}
    (hI : P.underlying tI = some (.int .i64)) (hS : P.underlying tS = some .string) (hA : P.underlying tA = some (.slice eA)) (heA : P.underlying eA = some .string) (hCA : P.cellsOf eA = 1)
    (hE : P.underlying tE = some (.slice eE)) (heE : P.underlying eE = some (.struct #[f0, f1, f2])) (hone : oneCellFields P #[f0, f1, f2] = true) (hCE : P.cellsOf eE = 3) (g0 : P.underlying f0.type = some (.int .i64)) (g1 : P.underlying f1.type = some (.int .i64)) (g2 : P.underlying f2.type = some .string)
    (h0 : DataW.trod enc P w 0 (fun _ => true) held n tI [v0] = some y0) (h1 : DataW.trod enc P w 0 (fun _ => true) held n tS [v1] = some y1) (h2 : DataW.trod enc P w 0 (fun _ => true) held n tA [v2] = some y2) (h3 : DataW.trod enc P w 0 (fun _ => true) held n tE [v3] = some y3) :
    ∃ x : ALine, (v0 = .int .i64 x.p.kind ∧ v1 = .string x.p.name ∧ v2 = .slice x.aa x.p.args.length x.ca ∧ v3 = .slice x.ae x.p.expr.length x.ce) ∧ ArgLn w x := by
  obtain ⟨k, e0, _, w0⟩ := DataW.trod_int hI h0
  obtain ⟨s, e1, _, w1⟩ := DataW.trod_string hS h1
  obtain ⟨a, c, l, e2, m2, r2⟩ := argS_at hA heA hCA h2
  obtain ⟨b, d, q, e3, m3, r3⟩ := argT_at hE heE hone hCE g0 g1 g2 h3
  injection e0 with e0; injection e1 with e1
  exact ⟨⟨⟨k, s, l, q⟩, a, c, b, d⟩, ⟨e0, e1, e2, e3⟩, ⟨r2, r3⟩, m2, m3, w1, w0⟩
theorem argLs_of {t e tA eA tE eE : TypeId} {k0 k1 k2 k3 f0 f1 f2 : Field} {a : Option Addr} {len cap : Nat} {d : DataW H} {p : List MemPlace}
    (ht : P.underlying t = some (.slice e)) (he : P.underlying e = some (.struct #[k0, k1, k2, k3])) (hk : oneCellFields P #[k0, k1, k2, k3] = true) (hC : P.cellsOf e = 4)
    (hI : P.underlying k0.type = some (.int .i64)) (hS : P.underlying k1.type = some .string) (hA : P.underlying k2.type = some (.slice eA)) (heA : P.underlying eA = some .string) (hCA : P.cellsOf eA = 1)
    (hE : P.underlying k3.type = some (.slice eE)) (heE : P.underlying eE = some (.struct #[f0, f1, f2])) (hone : oneCellFields P #[f0, f1, f2] = true) (hCE : P.cellsOf eE = 3) (g0 : P.underlying f0.type = some (.int .i64)) (g1 : P.underlying f1.type = some (.int .i64)) (g2 : P.underlying f2.type = some .string)
    (h : DataW.Trod enc P w 0 (fun _ => true) held t (.slice a len cap) d p) : ∃ l : List ALine, l.length = len ∧ len ≤ maxLen ∧ ArgLs w a l := by
  obtain ⟨fuel, hf⟩ := h
  rcases open_fields ht he hk hC hf with hcs | ⟨x, len', cap', m, hcs, hl, hm, rfl, hi⟩
  · simp [Value.cells] at hcs
    obtain ⟨rfl, rfl, rfl⟩ := hcs
    exact ⟨[], rfl, by simp [maxLen], fun j hj => absurd hj (by simp)⟩
  · simp [Value.cells] at hcs
    obtain ⟨rfl, rfl, rfl⟩ := hcs
    obtain ⟨l, hll, hq⟩ := list_of len (fun j (t : ALine) => w.cell? (x.add (j * 4)) = some (.int .i64 t.p.kind) ∧ w.cell? ⟨(x.add (j * 4)).block, (x.add (j * 4)).off + 1, none⟩ = some (.string t.p.name) ∧
        w.cell? ⟨(x.add (j * 4)).block, (x.add (j * 4)).off + 2, none⟩ = some (.slice t.aa t.p.args.length t.ca) ∧ w.cell? ⟨(x.add (j * 4)).block, (x.add (j * 4)).off + 3, none⟩ = some (.slice t.ae t.p.expr.length t.ce) ∧ ArgLn w t) (fun j hj => by
      obtain ⟨n, hn⟩ := hi j (by omega)
      obtain ⟨v0, y0, c0, t0⟩ := hn 0 k0 rfl
      obtain ⟨v1, y1, c1, t1⟩ := hn 1 k1 rfl
      obtain ⟨v2, y2, c2, t2⟩ := hn 2 k2 rfl
      obtain ⟨v3, y3, c3, t3⟩ := hn 3 k3 rfl
      obtain ⟨z, ⟨rfl, rfl, rfl, rfl⟩, r⟩ := argLn_at hI hS hA heA hCA hE heE hone hCE g0 g1 g2 t0 t1 t2 t3
      exact ⟨z, c0, (add_in x (j * 4) 0) ▸ c1, (add_in x (j * 4) 1) ▸ c2, (add_in x (j * 4) 2) ▸ c3, r⟩)
    exact ⟨l, hll, by omega, fun j hj => ⟨x, rfl, by have := World.block_lt_of_cell? w _ (hq j hj).1; rw [addr_block] at this; exact this, hq j hj⟩⟩
end

/-- Small enough for all that is made of it. -/
def SmallL (x : PLine) : Prop := x.name.size ≤ 1048576 ∧ x.args.length ≤ 1048576 ∧ (∀ s ∈ x.args, s.size ≤ 1048576) ∧ x.expr.length ≤ 1048576 ∧ ∀ t ∈ x.expr, t.name.size ≤ 1048576
/-- A line of memory, without its slices' addresses. -/
def LnL.p (x : LnL) : PLine := ⟨x.kind, x.name, x.args, x.expr⟩
def lnA (x : LnL) : Value := .agg #[.int .i64 x.kind, .string x.name, x.va, x.ve]
theorem InMem.below {TS TK : TypeId} {w w' : World} {x : LnL} (h : InMem TS TK w x) (hb : Below w.heap.size w w') : InMem TS TK w' x :=
  ⟨h.1.kept (row := none) ⟨hb.os, hb.tape, hb.output, hb.size, fun j hj _ => hb.block j hj⟩ (by cases x.va.ownBlock with
    | none => exact .inl rfl
    | some y => exact .inr (by simp)), h.2.kept (row := none) ⟨hb.os, hb.tape, hb.output, hb.size, fun j hj _ => hb.block j hj⟩ (by cases x.ve.ownBlock with
    | none => exact .inl rfl
    | some y => exact .inr (by simp))⟩
theorem AllIn.below {TS TK : TypeId} {w w' : World} {l : List LnL} (h : AllIn TS TK w l) (hb : Below w.heap.size w w') : AllIn TS TK w' l := fun x hx => (h x hx).below hb
theorem slice_shape {B T n s : Nat} {w : World} {v : Value} {xs : List Value} (h : w.ownsRow B T s v n xs) : ∃ a c, v = .slice a n c := by
  rcases h.2 with ⟨rfl, rfl⟩ | ⟨g, cap, cur, rfl, _⟩
  · exact ⟨_, _, rfl⟩
  · exact ⟨_, _, rfl⟩
/-- A line was returned, its slices in rows of their own from block B on. -/
def LnRes (TS TK B : Nat) (p : PLine) (w : World) (e : Ending) (w' : World) : Prop :=
  ∃ va ve, e = .returned (.agg #[.int .i64 p.kind, .string p.name, va, ve]) ∧ w'.ownsRow B TS 1 va p.args.length (strV p.args) ∧ w'.ownsRow B TK 3 ve p.expr.length (toksV p.expr) ∧ Below w.heap.size w w'
end Go.Proofs.YtbdplcbmfcfigaaDoor
