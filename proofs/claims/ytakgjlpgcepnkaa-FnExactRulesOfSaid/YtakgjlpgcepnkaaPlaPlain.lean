/- Places as an argument of a law, plain. Nothing of the program. -/
import Derived.Test.YtakgjlpgcepnkaaItmPlain
namespace Go.Proofs.Ytakgjlpgcepnkaa
open Go.RowKit Go.Lib Go.ChangeShapes Go.WideShapes Go.Deep

structure PPl where
  off : Int
  p : PIt
structure APl where
  off : Int
  x : AIt
def APl.pp (y : APl) : PPl := ⟨y.off, y.x.p⟩
def ArgPls (w : World) (a : Option Addr) (l : List APl) : Prop := ∀ j (h : j < l.length), ∃ x, a = some x ∧ x.block < w.heap.size ∧
  w.cell? (x.add (j * 8)) = some (.int .i64 l[j].off) ∧ w.cell? ⟨(x.add (j * 8)).block, (x.add (j * 8)).off + 1, none⟩ = some (.int .i64 l[j].x.p.code) ∧ w.cell? ⟨(x.add (j * 8)).block, (x.add (j * 8)).off + 2, none⟩ = some (.int .i64 l[j].x.p.arg) ∧ w.cell? ⟨(x.add (j * 8)).block, (x.add (j * 8)).off + 3, none⟩ = some (.int .i64 l[j].x.p.line) ∧ w.cell? ⟨(x.add (j * 8)).block, (x.add (j * 8)).off + 4, none⟩ = some (.bool l[j].x.p.start) ∧ w.cell? ⟨(x.add (j * 8)).block, (x.add (j * 8)).off + 5, none⟩ = some (.slice l[j].x.a l[j].x.p.chain.length l[j].x.c) ∧ w.cell? ⟨(x.add (j * 8)).block, (x.add (j * 8)).off + 6, none⟩ = some (.int .i64 l[j].x.p.depth) ∧ w.cell? ⟨(x.add (j * 8)).block, (x.add (j * 8)).off + 7, none⟩ = some (.bool l[j].x.p.ent) ∧ ArgIt w l[j].x
theorem ArgPls.below {w w' : World} {a : Option Addr} {l : List APl} (h : ArgPls w a l) (hb : Below w.heap.size w w') : ArgPls w' a l := fun j hj => by
  obtain ⟨x, e, h1, c0, c1, c2, c3, c4, c5, c6, c7, h2, h3⟩ := h j hj
  have k0 : (x.add (j * 8)).block < w.heap.size := by rw [addr_block]; exact h1
  exact ⟨x, e, Nat.lt_of_lt_of_le h1 hb.size, (hb.cell k0).trans c0, (hb.cell (p := ⟨_, _, none⟩) k0).trans c1, (hb.cell (p := ⟨_, _, none⟩) k0).trans c2, (hb.cell (p := ⟨_, _, none⟩) k0).trans c3, (hb.cell (p := ⟨_, _, none⟩) k0).trans c4, (hb.cell (p := ⟨_, _, none⟩) k0).trans c5, (hb.cell (p := ⟨_, _, none⟩) k0).trans c6, (hb.cell (p := ⟨_, _, none⟩) k0).trans c7, h2.below hb, h3⟩
section
variable {H : Type} {enc : TypeId × Value → H} {P : Program} {w : World} {held : Bool}
theorem argPls_of {t e : TypeId} {p0 p1 f0 f1 f2 f3 f4 f5 g0 g1 : Field} {eA : TypeId} {a : Option Addr} {len cap : Nat} {d : DataW H} {p : List MemPlace}
    (ht : P.underlying t = some (.slice e)) (he : P.underlying e = some (.struct #[p0, p1])) (hC : P.cellsOf e = 8) (hI : P.underlying p1.type = some (.struct #[f0, f1, f2, f3, f4, f5])) (hCI : P.cellsOf p1.type = 7) (ho : P.underlying f0.type = some (.struct #[g0, g1])) (hCo : P.cellsOf f0.type = 2)
    (oo : p0.offset = 0 ∧ p1.offset = 1) (of : f0.offset = 0 ∧ f1.offset = 2 ∧ f2.offset = 3 ∧ f3.offset = 4 ∧ f4.offset = 5 ∧ f5.offset = 6) (og : g0.offset = 0 ∧ g1.offset = 1)
    (k : P.cellsOf p0.type = 1 ∧ P.cellsOf f1.type = 1 ∧ P.cellsOf f2.type = 1 ∧ P.cellsOf f3.type = 1 ∧ P.cellsOf f4.type = 1 ∧ P.cellsOf f5.type = 1 ∧ P.cellsOf g0.type = 1 ∧ P.cellsOf g1.type = 1)
    (up : P.underlying p0.type = some (.int .i64)) (u0 : P.underlying g0.type = some (.int .i64)) (u1 : P.underlying g1.type = some (.int .i64)) (u2 : P.underlying f1.type = some (.int .i64)) (u3 : P.underlying f2.type = some .bool) (u4 : P.underlying f3.type = some (.slice eA)) (u4e : P.underlying eA = some (.int .i64)) (u4c : P.cellsOf eA = 1)
    (u5 : P.underlying f4.type = some (.int .i64)) (u6 : P.underlying f5.type = some .bool)
    (h : DataW.Trod enc P w 0 (fun _ => true) held t (.slice a len cap) d p) : ∃ l : List APl, l.length = len ∧ len ≤ maxLen ∧ ArgPls w a l := by
  obtain ⟨fuel, hf⟩ := h
  obtain ⟨oo0, oo1⟩ := oo
  obtain ⟨o0, o1, o2, o3, o4, o5⟩ := of
  obtain ⟨q0, q1⟩ := og
  obtain ⟨kp, k1, k2, k3, k4, k5, l0, l1⟩ := k
  rcases open_slice ht hf with h0 | ⟨x, len', cap', m, n, D, Pl, hcs, hb, hl, hm, hmm, hx, hi⟩
  · have h1 := h0.1
    simp [Value.cells] at h1
    obtain ⟨rfl, rfl, rfl⟩ := h1
    exact ⟨[], rfl, by simp [maxLen], fun j hj => absurd hj (by simp)⟩
  · simp [Value.cells] at hcs
    obtain ⟨rfl, rfl, rfl⟩ := hcs
    simp only [if_true] at hmm
    subst hmm
    obtain ⟨l, hll, hq⟩ := list_of len (fun j (y : APl) => w.cell? (x.add (j * 8)) = some (.int .i64 y.off) ∧ w.cell? ⟨(x.add (j * 8)).block, (x.add (j * 8)).off + 1, none⟩ = some (.int .i64 y.x.p.code) ∧ w.cell? ⟨(x.add (j * 8)).block, (x.add (j * 8)).off + 2, none⟩ = some (.int .i64 y.x.p.arg) ∧ w.cell? ⟨(x.add (j * 8)).block, (x.add (j * 8)).off + 3, none⟩ = some (.int .i64 y.x.p.line) ∧ w.cell? ⟨(x.add (j * 8)).block, (x.add (j * 8)).off + 4, none⟩ = some (.bool y.x.p.start) ∧ w.cell? ⟨(x.add (j * 8)).block, (x.add (j * 8)).off + 5, none⟩ = some (.slice y.x.a y.x.p.chain.length y.x.c) ∧ w.cell? ⟨(x.add (j * 8)).block, (x.add (j * 8)).off + 6, none⟩ = some (.int .i64 y.x.p.depth) ∧ w.cell? ⟨(x.add (j * 8)).block, (x.add (j * 8)).off + 7, none⟩ = some (.bool y.x.p.ent) ∧ ArgIt w y.x) (fun j hj => by
      obtain ⟨cs', hc, ht'⟩ := hi j (by omega)
      rw [hC] at hc
      obtain ⟨ys, n', hn', hy, hlen, hyl, hff⟩ := DataW.trod_struct he ht'
      obtain ⟨_, hcl, hat⟩ := World.cells?_some hc
      rw [hC] at hlen
      match cs', hlen, hff, hat with
      | [v0, v1, v2, v3, v4, v5, v6, v7], _, hff, hat =>
        match ys, hyl with
        | [zp, zi], _ =>
          have ep := hff 0 p0 rfl
          have ei := hff 1 p1 rfl
          rw [oo0, kp] at ep
          rw [oo1, hCI] at ei
          obtain ⟨ip, EP, _⟩ := DataW.trod_int up (x := zp) ep
          obtain ⟨ys, n2, hn2, hy2, hlen2, hyl, hff⟩ := DataW.trod_struct hI (x := zi) ei
          match ys, hyl with
          | [y0, y1, y2, y3, y4, y5], _ =>
            have e0 := hff 0 f0 rfl
            have e1 := hff 1 f1 rfl
            have e2 := hff 2 f2 rfl
            have e3 := hff 3 f3 rfl
            have e4 := hff 4 f4 rfl
            have e5 := hff 5 f5 rfl
            rw [o0, hCo] at e0
            rw [o1, k1] at e1
            rw [o2, k2] at e2
            rw [o3, k3] at e3
            rw [o4, k4] at e4
            rw [o5, k5] at e5
            obtain ⟨z0, z1, _, _, _, a0, a1⟩ := trod_struct2 ho (x := y0) e0
            rw [q0, l0] at a0
            rw [q1, l1] at a1
            obtain ⟨i0, E0, _⟩ := DataW.trod_int u0 a0
            obtain ⟨i1, E1, _⟩ := DataW.trod_int u1 a1
            obtain ⟨i2, E2, _⟩ := DataW.trod_int u2 (x := y1) e1
            obtain ⟨b3, E3, _⟩ := DataW.trod_bool u3 (x := y2) e2
            obtain ⟨ch, ca, cc, E4, hA, hAl⟩ := argIn_at u4 u4e u4c (y := y3) e3
            obtain ⟨i5, E5, _⟩ := DataW.trod_int u5 (x := y4) e4
            obtain ⟨b6, E6, _⟩ := DataW.trod_bool u6 (x := y5) e5
            simp at EP E0 E1 E2 E3 E5 E6
            subst EP E0 E1 E2 E3 E4 E5 E6
            refine ⟨⟨ip, ⟨⟨i0, i1, i2, b3, ch, i5, b6⟩, ca, cc⟩⟩, ?_, ?_, ?_, ?_, ?_, ?_, ?_, ?_, hA, hAl⟩
            · have := hat 0 (by decide); rw [Go.Deep.add_add] at this; simpa using this
            · have := hat 1 (by decide); rw [Go.Deep.add_add] at this; rw [← add_in x (j * 8) 0]; simpa using this
            · have := hat 2 (by decide); rw [Go.Deep.add_add] at this; rw [← add_in x (j * 8) 1]; simpa using this
            · have := hat 3 (by decide); rw [Go.Deep.add_add] at this; rw [← add_in x (j * 8) 2]; simpa using this
            · have := hat 4 (by decide); rw [Go.Deep.add_add] at this; rw [← add_in x (j * 8) 3]; simpa using this
            · have := hat 5 (by decide); rw [Go.Deep.add_add] at this; rw [← add_in x (j * 8) 4]; simpa using this
            · have := hat 6 (by decide); rw [Go.Deep.add_add] at this; rw [← add_in x (j * 8) 5]; simpa using this
            · have := hat 7 (by decide); rw [Go.Deep.add_add] at this; rw [← add_in x (j * 8) 6]; simpa using this)
    exact ⟨l, hll, by omega, fun j hj => ⟨x, rfl, by have := World.block_lt_of_cell? w _ (hq j hj).1; rw [addr_block] at this; exact this, hq j hj⟩⟩
end
/-- A place in memory: its chain in a row. -/
structure VPl where
  off : Int
  x : VIt
def VPl.pp (y : VPl) : PPl := ⟨y.off, y.x.p⟩
def vplC (y : VPl) : List Value := .int .i64 y.off :: vitC y.x
def vplV (X : List VPl) : List Value := X.flatMap vplC
theorem vplV_append (X Y : List VPl) : vplV (X ++ Y) = vplV X ++ vplV Y := by unfold vplV; rw [List.flatMap_append]
theorem vplV_length (X : List VPl) : (vplV X).length = X.length * 8 := by
  induction X with
  | nil => rfl
  | cons x r ih => unfold vplV at ih ⊢; rw [List.flatMap_cons, List.length_append, ih, List.length_cons]; simp [vplC, vitC]; omega
theorem vplV_at (X : List VPl) (j : Nat) (h : j < X.length) (i : Nat) (hi : i < 8) : (vplV X)[j * 8 + i]? = (vplC X[j])[i]? := by
  unfold vplV
  induction X generalizing j with
  | nil => cases h
  | cons x r ih =>
    cases j with
    | zero => rw [List.flatMap_cons, List.getElem?_append_left (by simp [vplC, vitC]; omega)]; simp
    | succ j =>
      rw [List.flatMap_cons, List.getElem?_append_right (by simp [vplC, vitC]; omega), List.getElem_cons_succ]
      have e : (j + 1) * 8 + i - (vplC x).length = j * 8 + i := by simp [vplC, vitC]; omega
      rw [e]
      exact ih j (by simpa using h)
def pchL (X : List VPl) : List IvL := X.map fun y => ⟨y.x.p.chain, y.x.v⟩
theorem vpl_set (X : List VPl) (k : Nat) (hk : X.length = k) (y : VPl) (a b c d e f g h : Value) (R : List Value) :
    ((((((((vplV X ++ a :: b :: c :: d :: e :: f :: g :: h :: R).set (k * 8) (.int .i64 y.off)).set (k * 8 + 1) (.int .i64 y.x.p.code)).set (k * 8 + 2) (.int .i64 y.x.p.arg)).set (k * 8 + 3) (.int .i64 y.x.p.line)).set (k * 8 + 4) (.bool y.x.p.start)).set (k * 8 + 5) y.x.v).set (k * 8 + 6) (.int .i64 y.x.p.depth)).set (k * 8 + 7) (.bool y.x.p.ent) = vplV (X ++ [y]) ++ R := by
  have hl : (vplV X).length = k * 8 := by rw [vplV_length, hk]
  rw [List.set_append_right _ _ (by omega), List.set_append_right _ _ (by omega), List.set_append_right _ _ (by omega), List.set_append_right _ _ (by omega), List.set_append_right _ _ (by omega), List.set_append_right _ _ (by omega), List.set_append_right _ _ (by omega), List.set_append_right _ _ (by omega), hl]
  simp only [Nat.sub_self, Nat.add_sub_cancel_left]
  rw [vplV_append, List.append_assoc]
  rfl
theorem eight (R : List Value) (n : Nat) (h : R.length = (n + 1) * 8) : ∃ a b c d e f g i R', R = a :: b :: c :: d :: e :: f :: g :: i :: R' ∧ R'.length = n * 8 := by
  rcases R with _ | ⟨a, _ | ⟨b, _ | ⟨c, _ | ⟨d, _ | ⟨e, _ | ⟨f, _ | ⟨g, _ | ⟨i, R'⟩⟩⟩⟩⟩⟩⟩⟩
  all_goals first
    | (exfalso; simp only [List.length_nil, List.length_cons] at h; omega)
    | exact ⟨a, b, c, d, e, f, g, i, R', rfl, by simp only [List.length_cons] at h; omega⟩
end Go.Proofs.Ytakgjlpgcepnkaa
