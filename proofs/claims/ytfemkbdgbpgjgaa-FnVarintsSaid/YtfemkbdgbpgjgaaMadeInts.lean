/- Rows of numbers, in rows of their own, within a row: what a call has made, and their marks. Nothing of the program. -/
import Derived.Test.YtfemkbdgbpgjgaaPlainC
namespace Go.Proofs.Ytfemkbdgbpgjgaa
open Go.RowKit Go.Lib

/-- A row of numbers, and the slice value that stands for it. -/
structure IvL where
  xs : List Int
  v : Value
def ivV (X : List IvL) : List Value := X.map (·.v)
def ivX (X : List IvL) : List (List Int) := X.map (·.xs)
theorem ivV_length (X : List IvL) : (ivV X).length = X.length := by simp [ivV]
theorem ivX_length (X : List IvL) : (ivX X).length = X.length := by simp [ivX]
theorem ivV_append (X Y : List IvL) : ivV (X ++ Y) = ivV X ++ ivV Y := by simp [ivV]
theorem ivX_append (X Y : List IvL) : ivX (X ++ Y) = ivX X ++ ivX Y := by simp [ivX]
theorem ivV_get (X : List IvL) (j : Nat) (h : j < X.length) : (ivV X)[j]? = some X[j].v := by simp [ivV, h]
theorem ivX_get (X : List IvL) (j : Nat) (h : j < X.length) : (ivX X)[j]? = some X[j].xs := by simp [ivX, h]
theorem owns_iv {B e m : Nat} {w : World} {v : Value} {xs : List Value} {X : List IvL} (h : w.ownsRow B e 1 v m xs) (hl : ivV X = xs) : w.ownsRow B e 1 v X.length (ivV X) := by
  have hm : m = X.length := by have := h.1; rw [← hl, ivV_length] at this; omega
  rw [← hm, hl]; exact h
/-- Each in a row of its own, from B on, a later one behind an earlier one. -/
def MadeI (TI B : Nat) (w : World) (X : List IvL) : Prop :=
  (∀ x ∈ X, w.ownsRow B TI 1 x.v x.xs.length (intV x.xs)) ∧ X.Pairwise fun x y => ∀ g h, x.v.ownBlock = some g → y.v.ownBlock = some h → g < h
theorem MadeI.nil (TI B : Nat) (w : World) : MadeI TI B w [] := ⟨fun _ h => by simp at h, List.Pairwise.nil⟩
theorem MadeI.below {TI B : Nat} {w w' : World} {X : List IvL} (h : MadeI TI B w X) (hb : Below w.heap.size w w') : MadeI TI B w' X := ⟨fun x hx => owns_below (h.1 x hx) hb, h.2⟩
theorem MadeI.lt {TI B : Nat} {w : World} {X : List IvL} (h : MadeI TI B w X) (x : IvL) (hx : x ∈ X) (g : Nat) (hg : x.v.ownBlock = some g) : B ≤ g ∧ g < w.heap.size := (h.1 x hx).lt g hg
theorem MadeI.kept {TI B : Nat} {w w' : World} {X : List IvL} {r : Option Nat} (h : MadeI TI B w X) (hg : w.grownBy w' r) (hr : ∀ x ∈ X, ∀ g, x.v.ownBlock = some g → r ≠ some g) : MadeI TI B w' X :=
  ⟨fun x hx => far (h.1 x hx) hg (hr x hx), h.2⟩
theorem MadeI.snoc {TI B B' : Nat} {w w' : World} {X : List IvL} {x : IvL} (h : MadeI TI B w X) (hb : Below w.heap.size w w') (hx : w'.ownsRow B' TI 1 x.v x.xs.length (intV x.xs)) (hB : B ≤ B') (hw : w.heap.size ≤ B') : MadeI TI B w' (X ++ [x]) := by
  refine ⟨fun y hy => ?_, List.pairwise_append.2 ⟨h.2, List.pairwise_singleton _ _, fun y hy z hz g k hg hk => ?_⟩⟩
  · rcases List.mem_append.1 hy with hy | hy
    · exact (h.below hb).1 y hy
    · obtain rfl : y = x := by simpa using hy
      exact owns_lo hx hB
  · obtain rfl : z = x := by simpa using hz
    have h1 := (h.lt y hy g hg).2
    have := (hx.lt k hk).1
    omega
/-- One of them was written; the others are as they were. -/
theorem MadeI.put {TI B : Nat} {w w' : World} {A R : List IvL} {x : IvL} {ys : List Int} (h : MadeI TI B w (A ++ x :: R)) (hg : w.grownBy w' x.v.ownBlock) (h1 : w'.ownsRow B TI 1 x.v ys.length (intV ys)) : MadeI TI B w' (A ++ ⟨ys, x.v⟩ :: R) := by
  obtain ⟨hA, hxR, hc⟩ := List.pairwise_append.1 h.2
  obtain ⟨hx, hR⟩ := List.pairwise_cons.1 hxR
  refine ⟨fun y hy => ?_, List.pairwise_append.2 ⟨hA, List.pairwise_cons.2 ⟨fun y hy g k hg hk => hx y hy g k hg hk, hR⟩, fun a ha y hy g k hg hk => ?_⟩⟩
  · rcases List.mem_append.1 hy with hy | hy
    · exact far (h.1 y (List.mem_append_left _ hy)) hg (fun g e e' => by have := hc y hy x (List.mem_cons_self ..) g g e e'; omega)
    · rcases List.mem_cons.1 hy with rfl | hy
      · exact h1
      · exact far (h.1 y (List.mem_append_right _ (List.mem_cons_of_mem _ hy))) hg (fun g e e' => by have := hx y hy g g e' e; omega)
  · rcases List.mem_cons.1 hy with rfl | hy
    · exact hc a ha x (List.mem_cons_self ..) g k hg hk
    · exact hc a ha y (List.mem_cons_of_mem _ hy) g k hg hk
/-- The number behind the marks of such rows; the rows with their marks. -/
def miN (m : Nat) (X : List IvL) : Nat := X.foldl (fun a x => a + x.xs.length) m
def miX : Nat → List IvL → List IvL
  | _, [] => []
  | m, x :: r => ⟨mki m x.xs.length, x.v⟩ :: miX (m + x.xs.length) r
theorem miN_snoc (m : Nat) (X : List IvL) (x : IvL) : miN m (X ++ [x]) = miN m X + x.xs.length := by simp [miN]
theorem miX_snoc (X : List IvL) : ∀ m x, miX m (X ++ [x]) = miX m X ++ [⟨mki (miN m X) x.xs.length, x.v⟩] := by
  induction X with
  | nil => intro m x; rfl
  | cons y r ih => intro m x; simp only [List.cons_append, miX, ih]; rfl
theorem miX_length (X : List IvL) : ∀ m, (miX m X).length = X.length := by
  induction X with
  | nil => intro m; rfl
  | cons y r ih => intro m; simp [miX, ih]
theorem miX_step (m : Nat) (A R : List IvL) (x : IvL) : miX m (A ++ [x]) ++ R = miX m A ++ ⟨mki (miN m A) x.xs.length, x.v⟩ :: R := by
  rw [miX_snoc, List.append_assoc]
  rfl
theorem miV (X : List IvL) : ∀ m, ivV (miX m X) = ivV X := by
  induction X with
  | nil => intro m; rfl
  | cons y r ih =>
    intro m
    have := ih (m + y.xs.length)
    simp only [ivV] at this ⊢
    simp only [miX, List.map_cons, this]
end Go.Proofs.Ytfemkbdgbpgjgaa
