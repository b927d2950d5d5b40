/- Plain facts on the cursor from which inputs are drawn. Nothing of the program. -/
import Derived.Test.YtbdplcbmfcfigaaDoorTextPlain
import Derived.Laws.Bits128
import Derived.Maps.AppendAt
import Derived.WalkSmall
import Derived.Deep.AppendLies
namespace Go.Proofs.YtbdplcbmfcfigaaDoor
open Go.RowKit Go.Lib

/-- A slice of integers that came in: nil, or a row of cap cells, the numbers zs, each fitting its kind. -/
def IsRow (k : IntKind) (w : World) (a : Option Addr) (len cap : Nat) (zs : List Int) : Prop :=
  (a = none ∧ len = 0 ∧ cap = 0 ∧ zs = []) ∨
  ∃ x, a = some x ∧ len ≤ cap ∧ cap ≤ maxLen ∧ zs.length = cap ∧ (∀ i, i < zs.length → w.cell? (x.add i) = some (.int k (zs.getD i 0))) ∧ ∀ n ∈ zs, (Lit.int k n).wf = true

/-- The cursor in block c, over the bytes that came in. -/
def CurAt (T : TypeId) (w : World) (c : Nat) (a : Option Addr) (len cap : Nat) (z : List Int) : Prop :=
  (∃ i : Nat, ∃ h : Int, w.heap[c]? = some (.cells #[.slice a len cap, .int .i64 (i : Int), .int .i64 h] T (0, 0)) ∧ i ≤ len) ∧ IsRow .u8 w a len cap z ∧ (∀ x, a = some x → 0 < cap → x.block < c) ∧ len ≤ 1048576

/-- A number was drawn: it lies between lo and hi, the cursor lies where it lay, and no block but the cursor's has turned. -/
def DrawInt (T : TypeId) (lo hi : Int) (c : Nat) (a : Option Addr) (len cap : Nat) (z : List Int) (w : World) (e : Ending) (w' : World) : Prop :=
  ∃ x : Int, lo ≤ x ∧ x ≤ hi ∧ e = .returned (.int .i64 x) ∧ CurAt T w' c a len cap z ∧ w.grownBy w' (some c)

theorem i64_and255 (n : Int) : bits .and .i64 n 255 = n % 256 := by
  have h127 : (BitVec.ofInt 64 255).toNat = 2 ^ 8 - 1 := by decide
  have key : (BitVec.ofInt 64 n &&& BitVec.ofInt 64 255).toNat = (n % ((2 ^ 64 : Nat) : Int)).toNat % 2 ^ 8 := by
    rw [BitVec.toNat_and, BitVec.toNat_ofInt, h127, Nat.and_two_pow_sub_one_eq_mod]
  show IntKind.i64.wrap ((BitVec.ofInt 64 n &&& BitVec.ofInt 64 255).toNat : Nat) = n % 256
  rw [key, IntKind.wrap_i64]
  omega

theorem heap_setCell_at {w : World} {c j : Nat} {cs : Array Value} {t : TypeId} {fr : Nat × Nat} (h : w.heap[c]? = some (.cells cs t fr)) (v : Value) :
    (w.setCell ⟨c, j, none⟩ v).heap[c]? = some (.cells (cs.setIfInBounds j v) t fr) := by
  simp [World.setCell, Array.getElem?_modify, h]
theorem grown_setCell (w : World) (c j : Nat) (v : Value) : w.grownBy (w.setCell ⟨c, j, none⟩ v) (some c) :=
  ⟨rfl, rfl, rfl, by simp [World.setCell], fun k _ hk => by
    have : c ≠ k := fun e => hk (by rw [e])
    simp [World.setCell, Array.getElem?_modify, this]⟩
theorem frozen_of_block {w : World} {c j : Nat} {cs : Array Value} {t : TypeId} (h : w.heap[c]? = some (.cells cs t (0, 0))) : w.frozen? ⟨c, j, none⟩ = false := by
  simp [World.frozen?, h]
theorem IsRow.grown {w w' : World} {a : Option Addr} {len cap c : Nat} {z : List Int} (h : IsRow .u8 w a len cap z) (hg : w.grownBy w' (some c)) (hne : ∀ x, a = some x → 0 < cap → x.block < c) : IsRow .u8 w' a len cap z := by
  rcases h with h | ⟨x, rfl, h1, h2, h3, h4, h5⟩
  · exact .inl h
  · refine .inr ⟨x, rfl, h1, h2, h3, fun i hi => ?_, h5⟩
    have hx := hne x rfl (by omega)
    refine hg.cell (h4 i hi) ?_
    have : (x.add i).block = x.block := by unfold Addr.add; split <;> rfl
    rw [this]
    intro e
    injection e with e
    omega
theorem grown_drewN {w w1 : World} {r : Option Nat} (h : w.grownBy w1 r) (n : Nat) : w.grownBy (w1.drewN n) r := ⟨h.os, h.tape, h.output, h.size, h.block⟩
theorem emod255 (x : Int) : 0 ≤ x % 256 ∧ x % 256 ≤ 255 := ⟨Int.emod_nonneg _ (by decide), by have := Int.emod_lt_of_pos x (by decide : (0 : Int) < 256); omega⟩
/-- A yes or no was drawn. -/
def DrawBool (T : TypeId) (c : Nat) (a : Option Addr) (len cap : Nat) (z : List Int) (w : World) (e : Ending) (w' : World) : Prop :=
  ∃ x : Bool, e = .returned (.bool x) ∧ CurAt T w' c a len cap z ∧ w.grownBy w' (some c)
/-- A cursor was made, in a new block. -/
def DrawCur (T : TypeId) (a : Option Addr) (len cap : Nat) (z : List Int) (w : World) (e : Ending) (w' : World) : Prop :=
  ∃ c : Nat, e = .returned (.pointer (some ⟨c, 0, none⟩)) ∧ w.heap.size ≤ c ∧ c < w'.heap.size ∧ CurAt T w' c a len cap z ∧ Below w.heap.size w w'
theorem IsRow.below {w w' : World} {a : Option Addr} {len cap B : Nat} {z : List Int} (h : IsRow .u8 w a len cap z) (hg : Below B w w') (hne : ∀ x, a = some x → 0 < cap → x.block < B) : IsRow .u8 w' a len cap z := by
  rcases h with h | ⟨x, rfl, h1, h2, h3, h4, h5⟩
  · exact .inl h
  · refine .inr ⟨x, rfl, h1, h2, h3, fun i hi => ?_, h5⟩
    have hx := hne x rfl (by omega)
    have hb : (x.add i).block = x.block := by unfold Addr.add; split <;> rfl
    rw [hg.cell (by rw [hb]; exact hx)]
    exact h4 i hi
theorem IsRow.lt {w : World} {a : Option Addr} {len cap : Nat} {z : List Int} (h : IsRow .u8 w a len cap z) : ∀ x, a = some x → 0 < cap → x.block < w.heap.size := by
  intro x hx hc
  rcases h with ⟨rfl, _⟩ | ⟨y, rfl, h1, h2, h3, h4, h5⟩
  · cases hx
  · injection hx with hx
    subst hx
    have := World.block_lt_of_cell? w _ (h4 0 (by omega))
    have hb : (y.add 0).block = y.block := by unfold Addr.add; split <;> rfl
    rw [hb] at this; exact this
theorem draw_new {T : TypeId} {w : World} {a : Option Addr} {len cap : Nat} {z : List Int} (h : IsRow .u8 w a len cap z) (hl : len ≤ 1048576) (g : Int) :
    DrawCur T a len cap z w (.returned (.pointer (some ⟨w.heap.size, 0, none⟩))) (w.alloc (.cells #[.slice a len cap, .int .i64 0, .int .i64 g] T)) :=
  have hb : Below w.heap.size w (w.alloc (.cells #[.slice a len cap, .int .i64 0, .int .i64 g] T)) := (Below.refl _ _).alloc (Nat.le_refl _) _
  ⟨w.heap.size, rfl, Nat.le_refl _, by simp, ⟨⟨0, g, heap_alloc_new w _, Nat.zero_le _⟩, h.below hb h.lt, h.lt, hl⟩, hb⟩
theorem emod_below (x n : Int) (_h : 0 ≤ x) (h0 : 0 < n) : 0 ≤ x % n ∧ x % n ≤ n - 1 := ⟨Int.emod_nonneg _ (by omega), by have := Int.emod_lt_of_pos x h0; omega⟩
theorem add_plain (b off i : Nat) : (⟨b, off, none⟩ : Addr).add i = ⟨b, off + i, none⟩ := by unfold Addr.add; split <;> simp_all
theorem CurAt.moved {T : TypeId} {w w' : World} {c len cap : Nat} {a : Option Addr} {z : List Int} (h : CurAt T w c a len cap z) (hg : w.grownBy w' (some c)) {i : Nat} {g : Int} (hi : i ≤ len)
    (hb : w'.heap[c]? = some (.cells #[.slice a len cap, .int .i64 (i : Int), .int .i64 g] T (0, 0))) : CurAt T w' c a len cap z :=
  ⟨⟨i, g, hb, hi⟩, h.2.1.grown hg h.2.2.1, h.2.2.1, h.2.2.2⟩
theorem draw_end1 {T : TypeId} {w : World} {c len cap i : Nat} {a : Option Addr} {z : List Int} {h : Int} (H : CurAt T w c a len cap z) (hi : i ≤ len)
    (hb : w.heap[c]? = some (.cells #[.slice a len cap, .int .i64 (i : Int), .int .i64 h] T (0, 0))) (x g : Int) (n1 n2 : Nat) :
    DrawInt T 0 255 c a len cap z w (.returned (.int .i64 (x % 256))) (((w.setCell ⟨c, 2, none⟩ (.int .i64 g)).drewN n1).drewN n2) :=
  have G := grown_drewN (grown_drewN (grown_setCell w c 2 (.int .i64 g)) n1) n2
  ⟨_, (emod255 _).1, (emod255 _).2, rfl, H.moved G hi (heap_setCell_at hb _), G⟩
theorem draw_end2 {T : TypeId} {w : World} {c len cap i : Nat} {a : Option Addr} {z : List Int} {h : Int} (H : CurAt T w c a len cap z) (hi : i + 1 ≤ len)
    (hb : w.heap[c]? = some (.cells #[.slice a len cap, .int .i64 (i : Int), .int .i64 h] T (0, 0))) (x g : Int) (n1 : Nat) :
    DrawInt T 0 255 c a len cap z w (.returned (.int .i64 (x % 256))) (((w.setCell ⟨c, 2, none⟩ (.int .i64 g)).drewN n1).setCell ⟨c, 1, none⟩ (.int .i64 ((i : Int) + 1))) :=
  have G0 := grown_drewN (grown_setCell w c 2 (.int .i64 g)) n1
  have G := World.grownBy.trans G0 (grown_setCell _ c 1 (.int .i64 ((i : Int) + 1)))
  ⟨_, (emod255 _).1, (emod255 _).2, rfl, H.moved (i := i + 1) (g := g) G hi (heap_setCell_at (w := (w.setCell ⟨c, 2, none⟩ (.int .i64 g)).drewN n1) (heap_setCell_at hb _) _), G⟩
theorem cell_of_ints {w : World} {b : Nat} {zs : List Int} {t : TypeId} (h : w.heap[b]? = some (.cells (zs.map (Value.int .i64)).toArray t (0, 0))) (j : Nat) (hj : j < zs.length) :
    w.cell? ⟨b, j, none⟩ = some (.int .i64 zs[j]) := by
  rw [cell_of_row w b j _ _ _ h]
  simp [hj]
theorem grown_alloc' (w : World) (o : Obj) (r : Option Nat) : w.grownBy (w.alloc o) r :=
  ⟨rfl, rfl, rfl, by simp, fun k hk _ => Below.heap_alloc w o k hk⟩
theorem CurAt.lt {T : TypeId} {w : World} {c len cap : Nat} {a : Option Addr} {z : List Int} (h : CurAt T w c a len cap z) : c < w.heap.size := by
  obtain ⟨⟨i, g, hb, _⟩, _⟩ := h
  rcases Nat.lt_or_ge c w.heap.size with h | h
  · exact h
  · rw [Array.getElem?_eq_none h] at hb; cases hb
theorem CurAt.alloc {T : TypeId} {w : World} {c len cap : Nat} {a : Option Addr} {z : List Int} (h : CurAt T w c a len cap z) (o : Obj) : CurAt T (w.alloc o) c a len cap z := by
  have hl := h.lt
  obtain ⟨⟨i, g, hb, hi⟩, hr, hx, hn⟩ := h
  exact ⟨⟨i, g, by rw [Below.heap_alloc w o c hl]; exact hb, hi⟩, hr.grown (grown_alloc' w o (some c)) hx, hx, hn⟩
/-- A text was drawn. -/
def DrawStr (T : TypeId) (m : Nat) (c : Nat) (a : Option Addr) (len cap : Nat) (z : List Int) (w : World) (e : Ending) (w' : World) : Prop :=
  ∃ t : ByteArray, e = .returned (.string t) ∧ t.size ≤ m ∧ CurAt T w' c a len cap z ∧ w.grownBy w' (some c)
theorem CurAt.kept {T : TypeId} {w w' : World} {c len cap : Nat} {a : Option Addr} {z : List Int} {row : Option Nat} (h : CurAt T w c a len cap z) (hg : w.grownBy w' row) (hr : ∀ k, row = some k → c < k) : CurAt T w' c a len cap z := by
  have hl := h.lt
  obtain ⟨⟨i, g, hb, hi⟩, hrow, hx, hn⟩ := h
  refine ⟨⟨i, g, by rw [hg.block c hl (by intro e; have := hr c e.symm; omega)]; exact hb, hi⟩, ?_, hx, hn⟩
  rcases hrow with h | ⟨x, rfl, h1, h2, h3, h4, h5⟩
  · exact .inl h
  · refine .inr ⟨x, rfl, h1, h2, h3, fun i hi => ?_, h5⟩
    have hx := hx x rfl (by omega)
    refine hg.cell (h4 i hi) ?_
    have hb : (x.add i).block = x.block := by unfold Addr.add; split <;> rfl
    rw [hb]
    intro e
    have := hr _ e.symm
    omega
end Go.Proofs.YtbdplcbmfcfigaaDoor
