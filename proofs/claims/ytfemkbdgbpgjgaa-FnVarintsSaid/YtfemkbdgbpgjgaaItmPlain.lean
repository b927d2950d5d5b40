/- Items as an argument of a law, plain. Nothing of the program. -/
import Derived.Test.YtfemkbdgbpgjgaaPlainB
import Derived.Test.YtfemkbdgbpgjgaaRunMem
namespace Go.Proofs.Ytfemkbdgbpgjgaa
open Go.RowKit Go.Lib Go.ChangeShapes Go.WideShapes Go.Deep

structure PIt where
  code : Int
  arg : Int
  line : Int
  start : Bool
  chain : List Int
  depth : Int
  ent : Bool
structure AIt where
  p : PIt
  a : Option Addr
  c : Nat
def ArgIn (w : World) (a : Option Addr) (l : List Int) : Prop := ∀ k (h : k < l.length), ∃ x, a = some x ∧ x.block < w.heap.size ∧ w.cell? (x.add k) = some (.int .i64 l[k])
theorem ArgIn.below {w w' : World} {a : Option Addr} {l : List Int} (h : ArgIn w a l) (hb : Below w.heap.size w w') : ArgIn w' a l := fun k hk => by
  obtain ⟨x, e, h1, h2⟩ := h k hk
  exact ⟨x, e, Nat.lt_of_lt_of_le h1 hb.size, (hb.cell (by rw [addr_block]; exact h1)).trans h2⟩
def ArgIt (w : World) (x : AIt) : Prop := ArgIn w x.a x.p.chain ∧ x.p.chain.length ≤ maxLen
def ArgIts (w : World) (a : Option Addr) (l : List AIt) : Prop := ∀ j (h : j < l.length), ∃ x, a = some x ∧ x.block < w.heap.size ∧
  w.cell? (x.add (j * 7)) = some (.int .i64 l[j].p.code) ∧ w.cell? ⟨(x.add (j * 7)).block, (x.add (j * 7)).off + 1, none⟩ = some (.int .i64 l[j].p.arg) ∧ w.cell? ⟨(x.add (j * 7)).block, (x.add (j * 7)).off + 2, none⟩ = some (.int .i64 l[j].p.line) ∧
  w.cell? ⟨(x.add (j * 7)).block, (x.add (j * 7)).off + 3, none⟩ = some (.bool l[j].p.start) ∧ w.cell? ⟨(x.add (j * 7)).block, (x.add (j * 7)).off + 4, none⟩ = some (.slice l[j].a l[j].p.chain.length l[j].c) ∧
  w.cell? ⟨(x.add (j * 7)).block, (x.add (j * 7)).off + 5, none⟩ = some (.int .i64 l[j].p.depth) ∧ w.cell? ⟨(x.add (j * 7)).block, (x.add (j * 7)).off + 6, none⟩ = some (.bool l[j].p.ent) ∧ ArgIt w l[j]
theorem ArgIts.below {w w' : World} {a : Option Addr} {l : List AIt} (h : ArgIts w a l) (hb : Below w.heap.size w w') : ArgIts w' a l := fun j hj => by
  obtain ⟨x, e, h1, c0, c1, c2, c3, c4, c5, c6, h2, h3⟩ := h j hj
  have k0 : (x.add (j * 7)).block < w.heap.size := by rw [addr_block]; exact h1
  exact ⟨x, e, Nat.lt_of_lt_of_le h1 hb.size, (hb.cell k0).trans c0, (hb.cell (p := ⟨_, _, none⟩) k0).trans c1, (hb.cell (p := ⟨_, _, none⟩) k0).trans c2, (hb.cell (p := ⟨_, _, none⟩) k0).trans c3, (hb.cell (p := ⟨_, _, none⟩) k0).trans c4, (hb.cell (p := ⟨_, _, none⟩) k0).trans c5, (hb.cell (p := ⟨_, _, none⟩) k0).trans c6, h2.below hb, h3⟩
section
variable {H : Type} {enc : TypeId × Value → H} {P : Program} {w : World} {held : Bool}
theorem argIn_at {t e : TypeId} {v : Value} {n : Nat} {y : DataW H × List MemPlace} (ht : P.underlying t = some (.slice e)) (he : P.underlying e = some (.int .i64)) (hC : P.cellsOf e = 1)
    (h : DataW.trod enc P w 0 (fun _ => true) held n t [v] = some y) : ∃ (l : List Int) (a : Option Addr) (c : Nat), v = .slice a l.length c ∧ ArgIn w a l ∧ l.length ≤ maxLen := by
  rcases open_ints ht he hC h with ⟨hcs, _⟩ | ⟨x, len, cap, zs, hcs, _, hl, hm, hz, _, hc, _⟩
  · injection hcs with hcs _
    exact ⟨[], none, 0, hcs, (fun k hk => absurd hk (by simp)), (by simp [maxLen])⟩
  · injection hcs with hcs _
    simp at hz
    refine ⟨zs.take len, some x, cap, by rw [hcs]; simp; omega, fun k hk => ?_, by simp; omega⟩
    have hk' : k < zs.length := by simp at hk; omega
    have hce := hc k hk'
    refine ⟨x, rfl, by have := World.block_lt_of_cell? w _ hce; rw [addr_block] at this; exact this, ?_⟩
    rw [hce]
    simp [List.getD, hk']
theorem argIts_of {t e o : TypeId} {f0 f1 f2 f3 f4 f5 g0 g1 : Field} {tA eA : TypeId} {a : Option Addr} {len cap : Nat} {d : DataW H} {p : List MemPlace}
    (ht : P.underlying t = some (.slice e)) (he : P.underlying e = some (.struct #[f0, f1, f2, f3, f4, f5])) (hC : P.cellsOf e = 7) (ho : P.underlying f0.type = some (.struct #[g0, g1])) (hCo : P.cellsOf f0.type = 2)
    (o0 : f0.offset = 0) (o1 : f1.offset = 2) (o2 : f2.offset = 3) (o3 : f3.offset = 4) (o4 : f4.offset = 5) (o5 : f5.offset = 6) (q0 : g0.offset = 0) (q1 : g1.offset = 1)
    (k1 : P.cellsOf f1.type = 1) (k2 : P.cellsOf f2.type = 1) (k3 : P.cellsOf f3.type = 1) (k4 : P.cellsOf f4.type = 1) (k5 : P.cellsOf f5.type = 1) (l0 : P.cellsOf g0.type = 1) (l1 : P.cellsOf g1.type = 1)
    (u0 : P.underlying g0.type = some (.int .i64)) (u1 : P.underlying g1.type = some (.int .i64)) (u2 : P.underlying f1.type = some (.int .i64)) (u3 : P.underlying f2.type = some .bool) (u4 : P.underlying f3.type = some (.slice eA)) (u4e : P.underlying eA = some (.int .i64)) (u4c : P.cellsOf eA = 1)
    (u5 : P.underlying f4.type = some (.int .i64)) (u6 : P.underlying f5.type = some .bool) (_ho : o = f0.type) (_ht : tA = f3.type)
    (h : DataW.Trod enc P w 0 (fun _ => true) held t (.slice a len cap) d p) : ∃ l : List AIt, l.length = len ∧ len ≤ maxLen ∧ ArgIts w a l := by
  obtain ⟨fuel, hf⟩ := h
  rcases open_slice ht hf with h0 | ⟨x, len', cap', m, n, D, Pl, hcs, hb, hl, hm, hmm, hx, hi⟩
  · have h1 := h0.1
    simp [Value.cells] at h1
    obtain ⟨rfl, rfl, rfl⟩ := h1
    exact ⟨[], rfl, by simp [maxLen], fun j hj => absurd hj (by simp)⟩
  · simp [Value.cells] at hcs
    obtain ⟨rfl, rfl, rfl⟩ := hcs
    simp only [if_true] at hmm
    subst hmm
    obtain ⟨l, hll, hq⟩ := list_of len (fun j (y : AIt) => w.cell? (x.add (j * 7)) = some (.int .i64 y.p.code) ∧ w.cell? ⟨(x.add (j * 7)).block, (x.add (j * 7)).off + 1, none⟩ = some (.int .i64 y.p.arg) ∧ w.cell? ⟨(x.add (j * 7)).block, (x.add (j * 7)).off + 2, none⟩ = some (.int .i64 y.p.line) ∧
      w.cell? ⟨(x.add (j * 7)).block, (x.add (j * 7)).off + 3, none⟩ = some (.bool y.p.start) ∧ w.cell? ⟨(x.add (j * 7)).block, (x.add (j * 7)).off + 4, none⟩ = some (.slice y.a y.p.chain.length y.c) ∧
      w.cell? ⟨(x.add (j * 7)).block, (x.add (j * 7)).off + 5, none⟩ = some (.int .i64 y.p.depth) ∧ w.cell? ⟨(x.add (j * 7)).block, (x.add (j * 7)).off + 6, none⟩ = some (.bool y.p.ent) ∧ ArgIt w y) (fun j hj => by
      obtain ⟨cs', hc, ht'⟩ := hi j (by omega)
      rw [hC] at hc
      obtain ⟨ys, n', hn', hy, hlen, hyl, hff⟩ := DataW.trod_struct he ht'
      obtain ⟨_, hcl, hat⟩ := World.cells?_some hc
      rw [hC] at hlen
      match cs', hlen, hff, hat with
      | [v0, v1, v2, v3, v4, v5, v6], _, hff, hat =>
        match ys, hyl with
        | [y0, y1, y2, y3, y4, y5], _ =>
          have e0 := hff 0 f0 rfl
          have e1 := hff 1 f1 rfl
          have e2 := hff 2 f2 rfl
          have e3 := hff 3 f3 rfl
          have e4 := hff 4 f4 rfl
          have e5 := hff 5 f5 rfl
          rw [o0, hCo] at e0
          rw [o1, k1] at e1
          rw [o2, k2] at e2
          rw [o3, k3] at e3
          rw [o4, k4] at e4
          rw [o5, k5] at e5
          obtain ⟨z0, z1, _, _, _, a0, a1⟩ := trod_struct2 ho (x := y0) e0
          rw [q0, l0] at a0
          rw [q1, l1] at a1
          obtain ⟨i0, E0, _⟩ := DataW.trod_int u0 a0
          obtain ⟨i1, E1, _⟩ := DataW.trod_int u1 a1
          obtain ⟨i2, E2, _⟩ := DataW.trod_int u2 (x := y1) e1
          obtain ⟨b3, E3, _⟩ := DataW.trod_bool u3 (x := y2) e2
          obtain ⟨ch, ca, cc, E4, hA, hAl⟩ := argIn_at u4 u4e u4c (y := y3) e3
          obtain ⟨i5, E5, _⟩ := DataW.trod_int u5 (x := y4) e4
          obtain ⟨b6, E6, _⟩ := DataW.trod_bool u6 (x := y5) e5
          simp at E0 E1 E2 E3 E5 E6
          subst E0 E1 E2 E3 E4 E5 E6
          refine ⟨⟨⟨i0, i1, i2, b3, ch, i5, b6⟩, ca, cc⟩, ?_, ?_, ?_, ?_, ?_, ?_, ?_, hA, hAl⟩
          · have := hat 0 (by decide); rw [Go.Deep.add_add] at this; simpa using this
          · have := hat 1 (by decide); rw [Go.Deep.add_add] at this; rw [← add_in x (j * 7) 0]; simpa using this
          · have := hat 2 (by decide); rw [Go.Deep.add_add] at this; rw [← add_in x (j * 7) 1]; simpa using this
          · have := hat 3 (by decide); rw [Go.Deep.add_add] at this; rw [← add_in x (j * 7) 2]; simpa using this
          · have := hat 4 (by decide); rw [Go.Deep.add_add] at this; rw [← add_in x (j * 7) 3]; simpa using this
          · have := hat 5 (by decide); rw [Go.Deep.add_add] at this; rw [← add_in x (j * 7) 4]; simpa using this
          · have := hat 6 (by decide); rw [Go.Deep.add_add] at this; rw [← add_in x (j * 7) 5]; simpa using this)
    exact ⟨l, hll, by omega, fun j hj => ⟨x, rfl, by have := World.block_lt_of_cell? w _ (hq j hj).1; rw [addr_block] at this; exact this, hq j hj⟩⟩
end
/-- An item in memory: its chain in a row. -/
structure VIt where
  p : PIt
  v : Value
def vitC (x : VIt) : List Value := [.int .i64 x.p.code, .int .i64 x.p.arg, .int .i64 x.p.line, .bool x.p.start, x.v, .int .i64 x.p.depth, .bool x.p.ent]
def vitV (X : List VIt) : List Value := X.flatMap vitC
theorem vitV_append (X Y : List VIt) : vitV (X ++ Y) = vitV X ++ vitV Y := by unfold vitV; rw [List.flatMap_append]
theorem vitV_length (X : List VIt) : (vitV X).length = X.length * 7 := by
  induction X with
  | nil => rfl
  | cons x r ih => unfold vitV at ih ⊢; rw [List.flatMap_cons, List.length_append, ih, List.length_cons]; simp [vitC]; omega
theorem vitV_at (X : List VIt) (j : Nat) (h : j < X.length) (i : Nat) (hi : i < 7) : (vitV X)[j * 7 + i]? = (vitC X[j])[i]? := by
  unfold vitV
  induction X generalizing j with
  | nil => cases h
  | cons x r ih =>
    cases j with
    | zero => rw [List.flatMap_cons, List.getElem?_append_left (by simp [vitC]; omega)]; simp
    | succ j =>
      rw [List.flatMap_cons, List.getElem?_append_right (by simp [vitC]; omega), List.getElem_cons_succ]
      have e : (j + 1) * 7 + i - (vitC x).length = j * 7 + i := by simp [vitC]; omega
      rw [e]
      exact ih j (by simpa using h)
def vchL (X : List VIt) : List IvL := X.map fun x => ⟨x.p.chain, x.v⟩
theorem vit_set (X : List VIt) (k : Nat) (hk : X.length = k) (x : VIt) (a b c d e f g : Value) (R : List Value) :
    (((((((vitV X ++ a :: b :: c :: d :: e :: f :: g :: R).set (k * 7) (.int .i64 x.p.code)).set (k * 7 + 1) (.int .i64 x.p.arg)).set (k * 7 + 2) (.int .i64 x.p.line)).set (k * 7 + 3) (.bool x.p.start)).set (k * 7 + 4) x.v).set (k * 7 + 5) (.int .i64 x.p.depth)).set (k * 7 + 6) (.bool x.p.ent) = vitV (X ++ [x]) ++ R := by
  have hl : (vitV X).length = k * 7 := by rw [vitV_length, hk]
  rw [List.set_append_right _ _ (by omega), List.set_append_right _ _ (by omega), List.set_append_right _ _ (by omega), List.set_append_right _ _ (by omega), List.set_append_right _ _ (by omega), List.set_append_right _ _ (by omega), List.set_append_right _ _ (by omega), hl]
  simp only [Nat.sub_self, Nat.add_sub_cancel_left]
  rw [vitV_append, List.append_assoc]
  rfl
theorem seven (R : List Value) (n : Nat) (h : R.length = (n + 1) * 7) : ∃ a b c d e f g R', R = a :: b :: c :: d :: e :: f :: g :: R' ∧ R'.length = n * 7 := by
  rcases R with _ | ⟨a, _ | ⟨b, _ | ⟨c, _ | ⟨d, _ | ⟨e, _ | ⟨f, _ | ⟨g, R'⟩⟩⟩⟩⟩⟩⟩
  all_goals first
    | (exfalso; simp only [List.length_nil, List.length_cons] at h; omega)
    | exact ⟨a, b, c, d, e, f, g, R', rfl, by simp only [List.length_cons] at h; omega⟩
theorem int_set (k : Nat) (l : List Int) (h : k < l.length) (a : Value) (R : List Value) : (intV (l.take k) ++ a :: R).set k (.int .i64 l[k]) = intV (l.take (k + 1)) ++ R := by
  have hl : (intV (l.take k)).length = k := by rw [intV_length, List.length_take]; omega
  rw [List.set_append_right _ _ (by omega), hl, Nat.sub_self, List.take_succ_eq_append_getElem h]
  unfold intV
  rw [List.map_append, List.append_assoc]
  rfl
end Go.Proofs.Ytfemkbdgbpgjgaa
