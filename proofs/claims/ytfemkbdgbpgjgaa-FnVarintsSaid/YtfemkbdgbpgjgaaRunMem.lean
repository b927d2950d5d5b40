/- Where a run is kept in memory, and what a step of it may have turned. Nothing of the program. -/
import Derived.Test.YtfemkbdgbpgjgaaRunMore
import Derived.Test.YtfemkbdgbpgjgaaMadeInts
namespace Go.Proofs.Ytfemkbdgbpgjgaa
open Go.RowKit Go.Lib

/-- Two values are not rows in one block. -/
def Ap (u v : Value) : Prop := ∀ g, u.ownBlock = some g → v.ownBlock ≠ some g
theorem Ap.symm {u v : Value} (h : Ap u v) : Ap v u := fun g hv hu => h g hu hv
theorem Ap.none {v : Value} {n c : Nat} : Ap (.slice none n c) v := fun g h => by cases h
def Off (v : Value) (M : List Value) : Prop := ∀ u ∈ M, Ap v u
/-- Only the run's own blocks have turned: rb, and the rows M, which are M' behind; new ones have come. -/
structure Step (rb : Nat) (M M' : List Value) (w w' : World) : Prop where
  os : w'.os = w.os
  tape : w'.tape = w.tape
  output : w'.output = w.output
  size : w.heap.size ≤ w'.heap.size
  block : ∀ k, k < w.heap.size → k ≠ rb → (∀ v ∈ M, v.ownBlock ≠ some k) → w'.heap[k]? = w.heap[k]?
  rows : ∀ v ∈ M', ∀ g, v.ownBlock = some g → (∃ u ∈ M, u.ownBlock = some g) ∨ w.heap.size ≤ g
theorem Step.refl (rb : Nat) (M : List Value) (w : World) : Step rb M M w w := ⟨rfl, rfl, rfl, Nat.le_refl _, fun _ _ _ _ => rfl, fun v hv g hg => .inl ⟨v, hv, hg⟩⟩
theorem Step.trans {rb : Nat} {A B C : List Value} {a b c : World} (h : Step rb A B a b) (k : Step rb B C b c) : Step rb A C a c :=
  ⟨k.os.trans h.os, k.tape.trans h.tape, k.output.trans h.output, Nat.le_trans h.size k.size, fun i hi hr hm => (k.block i (Nat.lt_of_lt_of_le hi h.size) hr (fun v hv e => by
      rcases h.rows v hv i e with ⟨u, hu, e'⟩ | h'
      · exact hm u hu e'
      · omega)).trans (h.block i hi hr hm), fun v hv g hg => by
    rcases k.rows v hv g hg with ⟨u, hu, e⟩ | h'
    · exact h.rows u hu g e
    · exact .inr (Nat.le_trans h.size h')⟩
theorem Step.of_below {rb : Nat} {M : List Value} {w w' : World} (h : Below w.heap.size w w') : Step rb M M w w' := ⟨h.os, h.tape, h.output, h.size, fun k hk _ _ => h.block k hk, fun v hv g hg => .inl ⟨v, hv, hg⟩⟩
/-- The run's own cells were written. -/
theorem Step.of_set {rb : Nat} {M M' : List Value} {w : World} {j : Nat} {v : Value} (h : ∀ v ∈ M', ∀ g, v.ownBlock = some g → (∃ u ∈ M, u.ownBlock = some g) ∨ w.heap.size ≤ g) : Step rb M M' w (w.setCell ⟨rb, j, none⟩ v) :=
  ⟨rfl, rfl, rfl, by simp [World.setCell], fun k _ hk _ => set_other hk, h⟩
/-- One of its rows was appended to. -/
theorem Step.of_grown {rb : Nat} {M : List Value} {w w' : World} {u : Value} (hg : w.grownBy w' u.ownBlock) (hu : u ∈ M) : Step rb M M w w' :=
  ⟨hg.os, hg.tape, hg.output, hg.size, fun k hk _ hm => hg.block k hk (fun e => hm u hu e.symm), fun v hv g hg => .inl ⟨v, hv, hg⟩⟩
/-- A row that is not among the run's own is kept. -/
theorem Step.row {rb : Nat} {M M' : List Value} {w w' : World} {B T n s : Nat} {v : Value} {xs : List Value} (h : Step rb M M' w w') (hr : w.ownsRow B T s v n xs) (hne : v.ownBlock ≠ some rb) (ho : Off v M) : w'.ownsRow B T s v n xs := by
  refine ⟨hr.1, ?_⟩
  rcases hr.2 with h0 | ⟨g, cap, cur, rfl, hB, hh, r⟩
  · exact .inl h0
  · refine .inr ⟨g, cap, cur, rfl, hB, ?_, r⟩
    rw [h.block g (blk hh).2.2 (fun e => hne (by rw [e]; rfl)) (fun u hu => ho u hu g rfl)]
    exact hh
theorem Step.off {rb : Nat} {M M' : List Value} {w w' : World} {B T n s : Nat} {v : Value} {xs : List Value} (h : Step rb M M' w w') (hr : w.ownsRow B T s v n xs) (ho : Off v M) : Off v M' := fun u hu g hg hug => by
  rcases h.rows u hu g hug with ⟨u', hu', e⟩ | h'
  · exact ho u' hu' g hg e
  · have := (hr.lt g hg).2; omega
/-- A block of another type is kept. -/
theorem Step.keep {rb : Nat} {M M' : List Value} {w w' : World} {g : Nat} {o : Obj} (h : Step rb M M' w w') (hg : w.heap[g]? = some o) (hne : g ≠ rb) (ho : ∀ u ∈ M, u.ownBlock ≠ some g) : w'.heap[g]? = some o := by
  have hlt : g < w.heap.size := by
    rcases Nat.lt_or_ge g w.heap.size with h' | h'
    · exact h'
    · rw [Array.getElem?_eq_none h'] at hg; cases hg
  rw [h.block g hlt hne ho]
  exact hg
theorem Step.base {rb B : Nat} {M M' : List Value} {w w' : World} (h : Step rb M M' w w') (hB : B ≤ w.heap.size) (hrb : B ≤ rb) (hm : ∀ v ∈ M, ∀ g, v.ownBlock = some g → B ≤ g) : Below B w w' :=
  ⟨h.os, h.tape, h.output, h.size, fun k hk => h.block k (by omega) (by omega) (fun v hv e => by have := hm v hv k e; omega)⟩
theorem owns_blks {B T n s : Nat} {w w' : World} {v : Value} {xs : List Value} (h : w.ownsRow B T s v n xs) (hb : ∀ g, v.ownBlock = some g → w'.heap[g]? = w.heap[g]?) : w'.ownsRow B T s v n xs := by
  refine ⟨h.1, ?_⟩
  rcases h.2 with h | ⟨g, cap, cur, rfl, hB, hh, r⟩
  · exact .inl h
  · exact .inr ⟨g, cap, cur, rfl, hB, (hb g rfl).trans hh, r⟩
/-- Rows of different types lie in different blocks. -/
theorem ap_types {w : World} {B B' T T' n n' s s' : Nat} {u v : Value} {xs ys : List Value} (hu : w.ownsRow B T s u n xs) (hv : w.ownsRow B' T' s' v n' ys) (hT : T ≠ T') : Ap u v := fun g h h' => by
  rcases hu.2 with ⟨rfl, _⟩ | ⟨g1, c1, r1, rfl, _, e1, _⟩
  · cases h
  rcases hv.2 with ⟨rfl, _⟩ | ⟨g2, c2, r2, rfl, _, e2, _⟩
  · cases h'
  simp only [Value.ownBlock, Option.some.injEq] at h h'
  subst h h'
  rw [e1] at e2
  injection e2 with e2
  injection e2 with _ e3
  exact hT e3
theorem ne_types {w : World} {B T T' n s g : Nat} {v : Value} {xs : List Value} {cs : Array Value} {fr : Nat × Nat} (hv : w.ownsRow B T s v n xs) (hg : w.heap[g]? = some (.cells cs T' fr)) (hT : T ≠ T') : v.ownBlock ≠ some g := fun h => by
  rcases hv.2 with ⟨rfl, _⟩ | ⟨g1, c1, r1, rfl, _, e1, _⟩
  · cases h
  simp only [Value.ownBlock, Option.some.injEq] at h
  subst h
  rw [hg] at e1
  injection e1 with e1
  injection e1 with _ e3
  exact hT e3.symm
theorem ne_map {w : World} {B T n s g : Nat} {v : Value} {xs : List Value} (hv : w.ownsRow B T s v n xs) (hg : ∀ cs fr, w.heap[g]? ≠ some (.cells cs T fr)) : v.ownBlock ≠ some g := fun h => by
  rcases hv.2 with ⟨rfl, _⟩ | ⟨g1, c1, r1, rfl, _, e1, _⟩
  · cases h
  simp only [Value.ownBlock, Option.some.injEq] at h
  subst h
  exact hg _ _ e1
/-- What is put out and visited, in rows of their own. -/
structure RunR (TI TII B : Nat) (w : World) (s : RunS) (ov vv : Value) (X : List IvL) : Prop where
  out : w.ownsRow B TI 1 ov s.out.length (intV s.out)
  vis : w.ownsRow B TII 1 vv X.length (ivV X)
  xs : ivX X = s.vis
  made : MadeI TI B w X
  apart : ∀ x ∈ X, Ap x.v ov
theorem RunR.len {TI TII B : Nat} {w : World} {s : RunS} {ov vv : Value} {X : List IvL} (h : RunR TI TII B w s ov vv X) : X.length = s.vis.length := by rw [← h.xs, ivX_length]
theorem RunR.of_block {TI TII B : Nat} {w w' : World} {s : RunS} {ov vv : Value} {X : List IvL} (h : RunR TI TII B w s ov vv X) (ho : ∀ g, ov.ownBlock = some g → w'.heap[g]? = w.heap[g]?) (hv : ∀ g, vv.ownBlock = some g → w'.heap[g]? = w.heap[g]?) (hx : ∀ x ∈ X, ∀ g, x.v.ownBlock = some g → w'.heap[g]? = w.heap[g]?) : RunR TI TII B w' s ov vv X :=
  ⟨owns_blks h.out ho, owns_blks h.vis hv, h.xs, ⟨fun x hxx => owns_blks (h.made.1 x hxx) (hx x hxx), h.made.2⟩, h.apart⟩
theorem RunR.below {TI TII B : Nat} {w w' : World} {s : RunS} {ov vv : Value} {X : List IvL} (h : RunR TI TII B w s ov vv X) (hb : Below w.heap.size w w') : RunR TI TII B w' s ov vv X :=
  h.of_block (fun g hg => hb.block g (h.out.lt g hg).2) (fun g hg => hb.block g (h.vis.lt g hg).2) (fun x hx g hg => hb.block g ((h.made.1 x hx).lt g hg).2)
/-- A number was put out. -/
theorem RunR.put {TI TII B : Nat} {w w' : World} {s : RunS} {ov vv ov' : Value} {X : List IvL} {v : Int} (h : RunR TI TII B w s ov vv X) (hT : TI ≠ TII) (hg : w.grownBy w' ov.ownBlock) (ho : w'.ownsRow B TI 1 ov' (s.out.length + 1) (intV (s.out ++ [v]))) (hr : ov'.ownBlock = ov.ownBlock ∨ ∀ g, ov'.ownBlock = some g → w.heap.size ≤ g) : RunR TI TII B w' ⟨s.out ++ [v], s.vis⟩ ov' vv X := by
  have hx : ∀ x ∈ X, ∀ g, x.v.ownBlock = some g → ov.ownBlock ≠ some g := fun x hx g hg => h.apart x hx g hg
  refine ⟨by simpa using ho, far h.vis hg (fun g e e' => ap_types h.out h.vis hT g e' e), h.xs, h.made.kept hg (fun x hx' g hg' => hx x hx' g hg'), fun x hx' g hg' => ?_⟩
  rcases hr with hr | hr
  · rw [hr]; exact hx x hx' g hg'
  · intro e
    have h1 := hr g e
    have h2 := ((h.made.1 x hx').lt g hg').2
    omega
/-- A visit was told. -/
theorem RunR.told {TI TII B : Nat} {w w1 w' : World} {s : RunS} {ov vv vv' : Value} {X : List IvL} {x : IvL} (h : RunR TI TII B w s ov vv X) (hT : TI ≠ TII) (hb : Below w.heap.size w w1) (hx : w1.ownsRow B TI 1 x.v x.xs.length (intV x.xs)) (hnew : ∀ g, x.v.ownBlock = some g → w.heap.size ≤ g) (hg : w1.grownBy w' vv.ownBlock) (hv : w'.ownsRow B TII 1 vv' (X.length + 1) (ivV (X ++ [x]))) : RunR TI TII B w' ⟨s.out, s.vis ++ [x.xs]⟩ ov vv' (X ++ [x]) := by
  have h1 := h.below hb
  have hxv : ∀ g, x.v.ownBlock = some g → vv.ownBlock ≠ some g := fun g hg' e => ap_types hx h1.vis hT g hg' e
  refine ⟨far h1.out hg (fun g e e' => ap_types h1.out h1.vis hT g e e'), by simpa using hv, by rw [ivX_append, h.xs]; rfl, ?_, fun y hy => ?_⟩
  · have hm := h1.made.kept hg (fun y hy g hg' => fun e => ap_types (h1.made.1 y hy) h1.vis hT g hg' e)
    have hx' := far hx hg hxv
    refine ⟨fun y hy => ?_, List.pairwise_append.2 ⟨hm.2, List.pairwise_singleton _ _, fun y hy z hz g k hg' hk => ?_⟩⟩
    · rcases List.mem_append.1 hy with hy | hy
      · exact hm.1 y hy
      · obtain rfl : y = x := by simpa using hy
        exact hx'
    · obtain rfl : z = x := by simpa using hz
      have h2 := ((h.made.1 y hy).lt g hg').2
      have h3 := hnew k hk
      omega
  · rcases List.mem_append.1 hy with hy | hy
    · exact h.apart y hy
    · obtain rfl : y = x := by simpa using hy
      exact fun g hg' e => by
        have h2 := hnew g hg'
        have h3 := (h.out.lt g e).2
        omega
end Go.Proofs.Ytfemkbdgbpgjgaa
