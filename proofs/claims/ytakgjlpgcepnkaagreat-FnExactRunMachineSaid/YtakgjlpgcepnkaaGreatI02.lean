/- Plain facts: Plain facts on the cursor from which inputs are drawn; Plain facts on the model's drawn expressions, and on memory while they are drawn; Rows of lines in memory, while a program is drawn; Blocks of memory: what is known of them, behind new ones and behind stores; Lines: which are valid, their texts, and what is read from a text; Expressions read again from their tokens' texts, and the chain of operands; What is read from a line's text; Programs' texts, and what is read from a program's text; A line's text in parts; Equality of rows, as Bools; Membership in a row of texts; A table of structs of one text and three yes or no, out of what a variable reads as; Arguments that are lines, or rows of lines, opened to cells; and lines of the program's own in memory; Rows of lines in memory, read only, or made one by one; The structure of programs, plain: ends of blocks, elses, functions, variables; Which programs make sense, in two forms: check by check over the whole program, and function by function; they are the same; Runs of programs, plain: what a program does from a job on, with a bound on the steps; what it comes to does not hang on the bound; Runs of programs, plain: what is put out and visited only grows, up to the limit; a run with a smaller limit is the beginning of one with a greater limit; Blocks: where their elses and ends are; and functions that follow one another; Runs of programs, plain: every visit begins in main and goes from call to call; Runs of programs, plain: in which function a line lies; what a visit's lines say of one another; Runs of programs, plain: what a job's result looks like, where a function goes on, and that every run of a program that makes sense comes to its end; Runs of programs, plain: how much is put out, how large values are, where expressions end, and which loops are around a line; Plain facts: What ParseLine hands back; Rows of lines that a call has made: each line's slices lie in rows of their own, apart from one another; and a text cut at its line feeds; Plain facts: Plain facts on the marks that the laws write into lists of strings; The marks that the laws write into rows of tokens; Marks that the laws write into lines in memory: which line holds which marks, and that the lines stay apart; Rows of numbers, in rows of their own, within a row: what a call has made, and their marks; Where a run is kept in memory, and what a step of it may have turned; A region that draws its order and ends in one store: loads are taken first though the store hits their cells; An append keeps the row that was appended to, as it was; Rows of symbols, and images, plain; Items as an argument of a law, plain. -/
import Derived.Test.YtakgjlpgcepnkaaGreatI00
import Derived.Laws.Bits128
import Derived.Maps.AppendAt
import Derived.WalkSmall
import Derived.Deep.AppendLies
import Derived.Below
import Derived.Lib.LaidTab
import Derived.Lib.SmallJoins
import Derived.Deep.RegionHeld
import Derived.StillTail
/-! Plain facts: Plain facts on the cursor from which inputs are drawn; Plain facts on the model's drawn expressions, and on memory while they are drawn; Rows of lines in memory, while a program is drawn; Blocks of memory: what is known of them, behind new ones and behind stores; Lines: which are valid, their texts, and what is read from a text; Expressions read again from their tokens' texts, and the chain of operands; What is read from a line's text; Programs' texts, and what is read from a program's text; A line's text in parts; Equality of rows, as Bools; Membership in a row of texts; A table of structs of one text and three yes or no, out of what a variable reads as; Arguments that are lines, or rows of lines, opened to cells; and lines of the program's own in memory; Rows of lines in memory, read only, or made one by one. Nothing of the program -/
/-! Plain facts on the cursor from which inputs are drawn. Nothing of the program -/
namespace Go.Proofs.YtakgjlpgcepnkaaGreat
open Go.RowKit Go.Lib

theorem heap_setCell_at {w : World} {c j : Nat} {cs : Array Value} {t : TypeId} {fr : Nat × Nat} (h : w.heap[c]? = some (.cells cs t fr)) (v : Value) :
    (w.setCell ⟨c, j, none⟩ v).heap[c]? = some (.cells (cs.setIfInBounds j v) t fr) := by
  simp [World.setCell, Array.getElem?_modify, h]
theorem grown_setCell (w : World) (c j : Nat) (v : Value) : w.grownBy (w.setCell ⟨c, j, none⟩ v) (some c) :=
  ⟨rfl, rfl, rfl, by simp [World.setCell], fun k _ hk => by
    have : c ≠ k := fun e => hk (by rw [e])
    simp [World.setCell, Array.getElem?_modify, this]⟩
theorem grown_alloc' (w : World) (o : Obj) (r : Option Nat) : w.grownBy (w.alloc o) r :=
  ⟨rfl, rfl, rfl, by simp, fun k hk _ => Below.heap_alloc w o k hk⟩
end Go.Proofs.YtakgjlpgcepnkaaGreat

/-! Plain facts on the model's drawn expressions, and on memory while they are drawn. Nothing of the program -/
namespace Go.Proofs.YtakgjlpgcepnkaaGreat
open Go.RowKit Go.Lib

/-- What was grown besides in new blocks only. -/
theorem grown_new {w w1 w2 : World} {c : Nat} {r : Option Nat} (h1 : w.grownBy w1 (some c)) (h2 : w1.grownBy w2 r) (hr : ∀ g, r = some g → w.heap.size ≤ g) : w.grownBy w2 (some c) :=
  ⟨h2.os.trans h1.os, h2.tape.trans h1.tape, h2.output.trans h1.output, Nat.le_trans h1.size h2.size, fun j hj hne => (h2.block j (Nat.lt_of_lt_of_le hj h1.size) (fun e => by have := hr _ e.symm; omega)).trans (h1.block j hj hne)⟩
theorem grown_alloc {w w1 : World} {c : Nat} (h1 : w.grownBy w1 (some c)) (o : Obj) : w.grownBy (w1.alloc o) (some c) := grown_new h1 (grown_alloc' w1 o none) (fun g e => by cases e)
end Go.Proofs.YtakgjlpgcepnkaaGreat

/-! Rows of lines in memory, while a program is drawn. Nothing of the program -/
namespace Go.Proofs.YtakgjlpgcepnkaaGreat
open Go.RowKit Go.Lib

/-- A line: kind, name, arguments, expression; and the two slice values that stand in its cells. -/
structure LnL where
  kind : Int
  name : ByteArray
  args : List ByteArray
  expr : List TokL
  va : Value
  ve : Value
/-- A row is there still where a block of another type has grown. -/
theorem owns_other {B T n s : Nat} {w w' : World} {v : Value} {xs : List Value} {r : Option Nat} (h : w.ownsRow B T s v n xs) (hg : w.grownBy w' r) (hr : ∀ g, r = some g → w.heap.size ≤ g ∨ ∃ cs t, w.heap[g]? = some (.cells cs t (0, 0)) ∧ t ≠ T) : w'.ownsRow B T s v n xs :=
  h.kept hg (by
    rcases h.2 with ⟨rfl, _⟩ | ⟨g, cap, cur, rfl, _, hh, _⟩
    · exact .inl rfl
    · refine .inr fun e => ?_
      have e' : r = some g := by rw [← e]; rfl
      rcases hr g e' with hlt | ⟨cs, t, hb, hne⟩
      · have : g < w.heap.size := by
          rcases Nat.lt_or_ge g w.heap.size with h | h
          · exact h
          · rw [Array.getElem?_eq_none h] at hh; cases hh
        omega
      · rw [hh] at hb
        injection hb with hb
        injection hb with _ ht
        exact hne ht.symm)
section
variable {T TL TS TK : TypeId} {w0 w w' : World} {c len cap : Nat} {a : Option Addr} {z : List Int} {X Y : List LnL} {v v' : Value}
end
end Go.Proofs.YtakgjlpgcepnkaaGreat

/-! Blocks of memory: what is known of them, behind new ones and behind stores. Nothing of the program -/
namespace Go.Proofs.YtakgjlpgcepnkaaGreat
open Go.RowKit Go.Lib

/-- What is known of a block. -/
theorem blk {w : World} {b : Nat} {cs : Array Value} {t : TypeId} (h : w.heap[b]? = some (.cells cs t (0, 0))) : (∀ i v, cs[i]? = some v → w.cell? ⟨b, i, none⟩ = some v) ∧ (∀ i, w.frozen? ⟨b, i, none⟩ = false) ∧ b < w.heap.size :=
  ⟨fun i v hv => by rw [cell_of_row w b i _ _ _ h]; exact hv, fun i => by simp [World.frozen?, h], by
    rcases Nat.lt_or_ge b w.heap.size with h' | h'
    · exact h'
    · rw [Array.getElem?_eq_none h'] at h; cases h⟩
theorem three_new (w : World) (o1 o2 o3 : Obj) : (((w.alloc o1).alloc o2).alloc o3).heap[w.heap.size]? = some o1 ∧ (((w.alloc o1).alloc o2).alloc o3).heap[w.heap.size + 1]? = some o2 ∧ (((w.alloc o1).alloc o2).alloc o3).heap[w.heap.size + 1 + 1]? = some o3 ∧
    (((w.alloc o1).alloc o2).alloc o3).heap.size = w.heap.size + 3 ∧ Below w.heap.size w (((w.alloc o1).alloc o2).alloc o3) := by
  have z1 : (w.alloc o1).heap.size = w.heap.size + 1 := by simp
  have z2 : ((w.alloc o1).alloc o2).heap.size = w.heap.size + 1 + 1 := by simp
  refine ⟨?_, ?_, ?_, by simp, ((((Below.refl _ _).alloc (Nat.le_refl _) _).alloc (by omega) _).alloc (by omega) _)⟩
  · rw [Below.heap_alloc _ o3 _ (by omega), Below.heap_alloc _ o2 _ (by omega)]; exact heap_alloc_new w o1
  · rw [Below.heap_alloc _ o3 _ (by omega), ← z1]; exact heap_alloc_new _ o2
  · rw [← z2]; exact heap_alloc_new _ o3
theorem set_other {w : World} {b c j : Nat} {v : Value} (h : b ≠ c) : (w.setCell ⟨c, j, none⟩ v).heap[b]? = w.heap[b]? := by
  have hcb : c ≠ b := fun e => h e.symm
  simp [World.setCell, Array.getElem?_modify, hcb]
theorem owns_lo {B B' T n s : Nat} {w : World} {v : Value} {xs : List Value} (h : w.ownsRow B T s v n xs) (hb : B' ≤ B) : w.ownsRow B' T s v n xs := by
  refine ⟨h.1, ?_⟩
  rcases h.2 with h | ⟨g, cap, cur, e, hB, r⟩
  · exact .inl h
  · exact .inr ⟨g, cap, cur, e, Nat.le_trans hb hB, r⟩
theorem owns_set {B T n s c j : Nat} {w : World} {v x : Value} {xs : List Value} (h : w.ownsRow B T s v n xs) (hc : c < B) : (w.setCell ⟨c, j, none⟩ x).ownsRow B T s v n xs :=
  h.kept (grown_setCell w c j x) (.inr (fun e => by have := (h.lt _ e).1; omega))
theorem two_new (w : World) (o1 o2 : Obj) : ((w.alloc o1).alloc o2).heap[w.heap.size]? = some o1 ∧ ((w.alloc o1).alloc o2).heap[w.heap.size + 1]? = some o2 ∧ ((w.alloc o1).alloc o2).heap.size = w.heap.size + 2 ∧ Below w.heap.size w ((w.alloc o1).alloc o2) := by
  have z1 : (w.alloc o1).heap.size = w.heap.size + 1 := by simp
  refine ⟨?_, ?_, by simp, (((Below.refl _ _).alloc (Nat.le_refl _) _).alloc (by omega) _)⟩
  · rw [Below.heap_alloc _ o2 _ (by omega)]; exact heap_alloc_new w o1
  · rw [← z1]; exact heap_alloc_new _ o2
theorem undrew {W w' : World} (h : Below W.drew.heap.size W.drew w') : Below W.heap.size W w' := ⟨h.os, h.tape, h.output, h.size, h.block⟩
end Go.Proofs.YtakgjlpgcepnkaaGreat

/-! Lines: which are valid, their texts, and what is read from a text. Nothing of the program -/
namespace Go.Proofs.YtakgjlpgcepnkaaGreat
open Go.RowKit Go.Lib

/-- A line: kind, name, arguments, expression. -/
structure PLine where
  kind : Int
  name : ByteArray
  args : List ByteArray
  expr : List TokL
end Go.Proofs.YtakgjlpgcepnkaaGreat

/-! Expressions read again from their tokens' texts, and the chain of operands. Nothing of the program -/
namespace Go.Proofs.YtakgjlpgcepnkaaGreat
open Go.RowKit Go.Lib

end Go.Proofs.YtakgjlpgcepnkaaGreat

/-! What is read from a line's text. Nothing of the program -/
namespace Go.Proofs.YtakgjlpgcepnkaaGreat
open Go.RowKit Go.Lib

end Go.Proofs.YtakgjlpgcepnkaaGreat

/-! Programs' texts, and what is read from a program's text. Nothing of the program -/
namespace Go.Proofs.YtakgjlpgcepnkaaGreat
open Go.RowKit Go.Lib

end Go.Proofs.YtakgjlpgcepnkaaGreat

/-! A line's text in parts. Nothing of the program -/
namespace Go.Proofs.YtakgjlpgcepnkaaGreat
open Go.RowKit Go.Lib

end Go.Proofs.YtakgjlpgcepnkaaGreat

/-! Equality of rows, as Bools. Nothing of the program -/
namespace Go.Proofs.YtakgjlpgcepnkaaGreat
open Go.RowKit Go.Lib

theorem str_ne (a b : ByteArray) (h : a ≠ b) : (a.toList == b.toList) = false := by
  rw [beq_eq_false_iff_ne]
  intro e
  exact h (bl_eq (by rw [ByteArray.toList_eq, ByteArray.toList_eq] at e; exact e))
end Go.Proofs.YtakgjlpgcepnkaaGreat

/-! Membership in a row of texts. Nothing of the program -/
namespace Go.Proofs.YtakgjlpgcepnkaaGreat
open Go.RowKit Go.Lib

end Go.Proofs.YtakgjlpgcepnkaaGreat

/-! A table of structs of one text and three yes or no, out of what a variable reads as. Nothing of the program -/
namespace Go.Proofs.YtakgjlpgcepnkaaGreat
open Go.RowKit Go.Lib Go.Joins

end Go.Proofs.YtakgjlpgcepnkaaGreat

/-! Arguments that are lines, or rows of lines, opened to cells; and lines of the program's own in memory. Nothing of the program -/
namespace Go.Proofs.YtakgjlpgcepnkaaGreat
open Go.RowKit Go.Lib Go.ChangeShapes Go.WideShapes Go.Deep

/-- A line that came in. -/
structure ALine where
  p : PLine
  aa : Option Addr
  ca : Nat
  ae : Option Addr
  ce : Nat
section
variable {H : Type} {enc : TypeId × Value → H} {P : Program} {w : World} {base : Nat} {spare : Nat → Bool} {held : Bool}
end

end Go.Proofs.YtakgjlpgcepnkaaGreat

/-! Rows of lines in memory, read only, or made one by one. Nothing of the program -/
namespace Go.Proofs.YtakgjlpgcepnkaaGreat
open Go.RowKit Go.Lib

end Go.Proofs.YtakgjlpgcepnkaaGreat

/-! The structure of programs, plain: ends of blocks, elses, functions, variables. Nothing of the program -/
namespace Go.Proofs.YtakgjlpgcepnkaaGreat
open Go.RowKit Go.Lib

/-- Does a line of this kind begin a block? -/
def isOp (k : Int) : Bool := k == 0 || k == 3 || k == 5
/-- By how much a line of this kind changes the number of open blocks. -/
def opn (k : Int) : Int := if isOp k then 1 else if k = 7 then -1 else 0
/-- The end of what is open, o blocks, from the line i on. -/
def endF (o : Int) (i : Nat) : List PLine → Int
  | [] => -1
  | x :: r => if o + opn x.kind = 0 then (i : Int) else endF (o + opn x.kind) (i + 1) r
/-- Line k's kind; -1 where there is none. -/
def lkZ (p : List PLine) (k : Int) : Int := if k < 0 then -1 else match p[k.toNat]? with
  | none => -1
  | some x => x.kind
def beZ (p : List PLine) (k : Int) : Int := if 0 ≤ k ∧ k.toNat < p.length ∧ isOp (lkZ p k) = true then endF 0 k.toNat (p.drop k.toNat) else -1
/-- The first function of a name. -/
def findF (n : ByteArray) (i : Nat) : List PLine → Int
  | [] => -1
  | x :: r => if x.kind = 0 ∧ x.name = n then (i : Int) else findF n (i + 1) r
def findZ (p : List PLine) (n : ByteArray) : Int := findF n 0 p
end Go.Proofs.YtakgjlpgcepnkaaGreat

/-! Which programs make sense, in two forms: check by check over the whole program, and function by function; they are the same. Nothing of the program -/
namespace Go.Proofs.YtakgjlpgcepnkaaGreat
open Go.RowKit Go.Lib

end Go.Proofs.YtakgjlpgcepnkaaGreat

/-! Runs of programs, plain: what a program does from a job on, with a bound on the steps; what it comes to does not hang on the bound. Nothing of the program -/
namespace Go.Proofs.YtakgjlpgcepnkaaGreat
open Go.RowKit Go.Lib

/-- What a run has put out, and what it has visited. -/
structure RunS where
  out : List Int
  vis : List (List Int)
/-- What is to be done: an expression from a token on; so many operands; a function's lines from one on. -/
inductive Job where
  | eval (c : List Int) (k : Nat) (L : List ByteArray) (vs : List Int) (i : Nat)
  | args (c : List Int) (k : Nat) (L : List ByteArray) (vs : List Int) (i n : Nat)
  | lines (c : List Int) (f : Nat) (L : List ByteArray) (vs : List Int) (k : Nat)
/-- What it comes to: a value and the token behind it; values; a function's value; the run's end. -/
inductive RunRes where
  | val (v : Int) (i : Nat)
  | vals (vs : List Int) (i : Nat)
  | ret (v : Int)
  | stop (c : Int)
end Go.Proofs.YtakgjlpgcepnkaaGreat

/-! Runs of programs, plain: what is put out and visited only grows, up to the limit; a run with a smaller limit is the beginning of one with a greater limit. Nothing of the program -/
namespace Go.Proofs.YtakgjlpgcepnkaaGreat
open Go.RowKit Go.Lib

end Go.Proofs.YtakgjlpgcepnkaaGreat

/-! Blocks: where their elses and ends are; and functions that follow one another. Nothing of the program -/
namespace Go.Proofs.YtakgjlpgcepnkaaGreat
open Go.RowKit Go.Lib

end Go.Proofs.YtakgjlpgcepnkaaGreat

/-! Runs of programs, plain: every visit begins in main and goes from call to call. Nothing of the program -/
namespace Go.Proofs.YtakgjlpgcepnkaaGreat
open Go.RowKit Go.Lib

/-- The lines of calls under way, and the function that they lead to. -/
inductive Chain (p : List PLine) : List Int → Nat → Prop
  | main : Chain p [] 0
  | call {c : List Int} {f f' k : Nat} {t : TokL} (h : Chain p c f) (h1 : f < k) (h2 : (k : Int) < beZ p (f : Int)) (hl : k < p.length) (ht : t ∈ p[k].expr) (h7 : t.kind = 7) (hf : findZ p t.name = (f' : Int)) : Chain p (c ++ [(k : Int)]) f'
end Go.Proofs.YtakgjlpgcepnkaaGreat

/-! Runs of programs, plain: in which function a line lies; what a visit's lines say of one another. Nothing of the program -/
namespace Go.Proofs.YtakgjlpgcepnkaaGreat
open Go.RowKit Go.Lib

end Go.Proofs.YtakgjlpgcepnkaaGreat

/-! Runs of programs, plain: what a job's result looks like, where a function goes on, and that every run of a program that makes sense comes to its end. Nothing of the program -/
namespace Go.Proofs.YtakgjlpgcepnkaaGreat
open Go.RowKit Go.Lib

end Go.Proofs.YtakgjlpgcepnkaaGreat

/-! Runs of programs, plain: how much is put out, how large values are, where expressions end, and which loops are around a line. Nothing of the program -/
namespace Go.Proofs.YtakgjlpgcepnkaaGreat
open Go.RowKit Go.Lib

section
variable {p : List PLine} {f k : Nat}
end
end Go.Proofs.YtakgjlpgcepnkaaGreat

/-! Plain facts: What ParseLine hands back; Rows of lines that a call has made: each line's slices lie in rows of their own, apart from one another; and a text cut at its line feeds; Plain facts: Plain facts on the marks that the laws write into lists of strings; The marks that the laws write into rows of tokens; Marks that the laws write into lines in memory: which line holds which marks, and that the lines stay apart. Nothing of the program -/
/-! What ParseLine hands back. Nothing of the program -/
namespace Go.Proofs.YtakgjlpgcepnkaaGreat
open Go.RowKit Go.Lib

end Go.Proofs.YtakgjlpgcepnkaaGreat

/-! Rows of lines that a call has made: each line's slices lie in rows of their own, apart from one another; and a text cut at its line feeds. Nothing of the program -/
namespace Go.Proofs.YtakgjlpgcepnkaaGreat
open Go.RowKit Go.Lib

theorem from_list (s : ByteArray) (t : Nat) : (s.extract t s.size).data.toList = s.data.toList.drop t := by
  simp only [ByteArray.data_extract, Array.toList_extract, List.extract_eq_take_drop]
  rw [List.take_of_length_le]
  rw [List.length_drop, list_len]
  exact Nat.le_refl _
theorem from_size (s : ByteArray) (t : Nat) : (s.extract t s.size).size = s.size - t := by rw [← list_len, from_list, List.length_drop, list_len]
end Go.Proofs.YtakgjlpgcepnkaaGreat

/-! Plain facts: Plain facts on the marks that the laws write into lists of strings; The marks that the laws write into rows of tokens. Nothing of the program -/
/-! Plain facts on the marks that the laws write into lists of strings. Nothing of the program -/
namespace Go.Proofs.YtakgjlpgcepnkaaGreat
open Go.RowKit Go.Lib

/-- The mark of the number k. -/
def mkT (k : Nat) : ByteArray := ⟨(109 :: decDigits k).toArray⟩
end Go.Proofs.YtakgjlpgcepnkaaGreat

/-! The marks that the laws write into rows of tokens. Nothing of the program -/
namespace Go.Proofs.YtakgjlpgcepnkaaGreat
open Go.RowKit Go.Lib

end Go.Proofs.YtakgjlpgcepnkaaGreat

/-! Marks that the laws write into lines in memory: which line holds which marks, and that the lines stay apart. Nothing of the program -/
namespace Go.Proofs.YtakgjlpgcepnkaaGreat
open Go.RowKit Go.Lib

theorem far {B T n s : Nat} {w w' : World} {v : Value} {xs : List Value} {r : Option Nat} (h : w.ownsRow B T s v n xs) (hg : w.grownBy w' r) (hne : ∀ g, v.ownBlock = some g → r ≠ some g) : w'.ownsRow B T s v n xs :=
  h.kept hg (by
    cases hv : v.ownBlock with
    | none => exact .inl rfl
    | some g => exact .inr (fun e => hne g hv e.symm))
end Go.Proofs.YtakgjlpgcepnkaaGreat

/-! Rows of numbers, in rows of their own, within a row: what a call has made, and their marks. Nothing of the program -/
namespace Go.Proofs.YtakgjlpgcepnkaaGreat
open Go.RowKit Go.Lib

/-- A row of numbers, and the slice value that stands for it. -/
structure IvL where
  xs : List Int
  v : Value
def ivV (X : List IvL) : List Value := X.map (·.v)
def ivX (X : List IvL) : List (List Int) := X.map (·.xs)
/-- Each in a row of its own, from B on, a later one behind an earlier one. -/
def MadeI (TI B : Nat) (w : World) (X : List IvL) : Prop :=
  (∀ x ∈ X, w.ownsRow B TI 1 x.v x.xs.length (intV x.xs)) ∧ X.Pairwise fun x y => ∀ g h, x.v.ownBlock = some g → y.v.ownBlock = some h → g < h
end Go.Proofs.YtakgjlpgcepnkaaGreat

/-! Where a run is kept in memory, and what a step of it may have turned. Nothing of the program -/
namespace Go.Proofs.YtakgjlpgcepnkaaGreat
open Go.RowKit Go.Lib

/-- Two values are not rows in one block. -/
def Ap (u v : Value) : Prop := ∀ g, u.ownBlock = some g → v.ownBlock ≠ some g
/-- Only the run's own blocks have turned: rb, and the rows M, which are M' behind; new ones have come. -/
structure Step (rb : Nat) (M M' : List Value) (w w' : World) : Prop where
  os : w'.os = w.os
  tape : w'.tape = w.tape
  output : w'.output = w.output
  size : w.heap.size ≤ w'.heap.size
  block : ∀ k, k < w.heap.size → k ≠ rb → (∀ v ∈ M, v.ownBlock ≠ some k) → w'.heap[k]? = w.heap[k]?
  rows : ∀ v ∈ M', ∀ g, v.ownBlock = some g → (∃ u ∈ M, u.ownBlock = some g) ∨ w.heap.size ≤ g
theorem Step.refl (rb : Nat) (M : List Value) (w : World) : Step rb M M w w := ⟨rfl, rfl, rfl, Nat.le_refl _, fun _ _ _ _ => rfl, fun v hv g hg => .inl ⟨v, hv, hg⟩⟩
theorem Step.trans {rb : Nat} {A B C : List Value} {a b c : World} (h : Step rb A B a b) (k : Step rb B C b c) : Step rb A C a c :=
  ⟨k.os.trans h.os, k.tape.trans h.tape, k.output.trans h.output, Nat.le_trans h.size k.size, fun i hi hr hm => (k.block i (Nat.lt_of_lt_of_le hi h.size) hr (fun v hv e => by
      rcases h.rows v hv i e with ⟨u, hu, e'⟩ | h'
      · exact hm u hu e'
      · omega)).trans (h.block i hi hr hm), fun v hv g hg => by
    rcases k.rows v hv g hg with ⟨u, hu, e⟩ | h'
    · exact h.rows u hu g e
    · exact .inr (Nat.le_trans h.size h')⟩
theorem Step.of_below {rb : Nat} {M : List Value} {w w' : World} (h : Below w.heap.size w w') : Step rb M M w w' := ⟨h.os, h.tape, h.output, h.size, fun k hk _ _ => h.block k hk, fun v hv g hg => .inl ⟨v, hv, hg⟩⟩
/-- The run's own cells were written. -/
theorem Step.of_set {rb : Nat} {M M' : List Value} {w : World} {j : Nat} {v : Value} (h : ∀ v ∈ M', ∀ g, v.ownBlock = some g → (∃ u ∈ M, u.ownBlock = some g) ∨ w.heap.size ≤ g) : Step rb M M' w (w.setCell ⟨rb, j, none⟩ v) :=
  ⟨rfl, rfl, rfl, by simp [World.setCell], fun k _ hk _ => set_other hk, h⟩
/-- A block of another type is kept. -/
theorem Step.keep {rb : Nat} {M M' : List Value} {w w' : World} {g : Nat} {o : Obj} (h : Step rb M M' w w') (hg : w.heap[g]? = some o) (hne : g ≠ rb) (ho : ∀ u ∈ M, u.ownBlock ≠ some g) : w'.heap[g]? = some o := by
  have hlt : g < w.heap.size := by
    rcases Nat.lt_or_ge g w.heap.size with h' | h'
    · exact h'
    · rw [Array.getElem?_eq_none h'] at hg; cases hg
  rw [h.block g hlt hne ho]
  exact hg
theorem Step.base {rb B : Nat} {M M' : List Value} {w w' : World} (h : Step rb M M' w w') (hB : B ≤ w.heap.size) (hrb : B ≤ rb) (hm : ∀ v ∈ M, ∀ g, v.ownBlock = some g → B ≤ g) : Below B w w' :=
  ⟨h.os, h.tape, h.output, h.size, fun k hk => h.block k (by omega) (by omega) (fun v hv e => by have := hm v hv k e; omega)⟩
theorem owns_blks {B T n s : Nat} {w w' : World} {v : Value} {xs : List Value} (h : w.ownsRow B T s v n xs) (hb : ∀ g, v.ownBlock = some g → w'.heap[g]? = w.heap[g]?) : w'.ownsRow B T s v n xs := by
  refine ⟨h.1, ?_⟩
  rcases h.2 with h | ⟨g, cap, cur, rfl, hB, hh, r⟩
  · exact .inl h
  · exact .inr ⟨g, cap, cur, rfl, hB, (hb g rfl).trans hh, r⟩
theorem ne_types {w : World} {B T T' n s g : Nat} {v : Value} {xs : List Value} {cs : Array Value} {fr : Nat × Nat} (hv : w.ownsRow B T s v n xs) (hg : w.heap[g]? = some (.cells cs T' fr)) (hT : T ≠ T') : v.ownBlock ≠ some g := fun h => by
  rcases hv.2 with ⟨rfl, _⟩ | ⟨g1, c1, r1, rfl, _, e1, _⟩
  · cases h
  simp only [Value.ownBlock, Option.some.injEq] at h
  subst h
  rw [hg] at e1
  injection e1 with e1
  injection e1 with _ e3
  exact hT e3.symm
/-- What is put out and visited, in rows of their own. -/
structure RunR (TI TII B : Nat) (w : World) (s : RunS) (ov vv : Value) (X : List IvL) : Prop where
  out : w.ownsRow B TI 1 ov s.out.length (intV s.out)
  vis : w.ownsRow B TII 1 vv X.length (ivV X)
  xs : ivX X = s.vis
  made : MadeI TI B w X
  apart : ∀ x ∈ X, Ap x.v ov
end Go.Proofs.YtakgjlpgcepnkaaGreat

/-! A region that draws its order and ends in one store: loads are taken first though the store hits their cells. Nothing of the program -/
namespace Go.Proofs.YtakgjlpgcepnkaaGreat
open Go.RowKit Go.Lib

section
variable {P : Program} {ops : Array Oper} {Q : Exit → Act → World → Prop} {S : World → Prop} {n : Nat}
/-- Whatever order is picked; S holds behind every operation but the tail's. -/
def AnyE (P : Program) (ops : Array Oper) (Q : Exit → Act → World → Prop) (S : World → Prop) (n : Nat) : Nat → Array Bool → Act → World → Prop
  | 0, l, a, w => Region.ready .any ops l = [] ∧ Q .normal a w
  | f + 1, l, a, w => (Region.ready .any ops l = [] → Q .normal a w) ∧ ∀ i ∈ Region.ready .any ops l, wpOp P ops Q i (fun a' w' => (i < n → S w') ∧ AnyE P ops Q S n f (l.setIfInBounds i true) a' w') a w
theorem any_of_E : ∀ (f : Nat) (l : Array Bool) (a : Act) (w : World), AnyE P ops Q S n f l a w → wpAny P .any ops Q f l a w
  | 0, _, _, _, h => h
  | f + 1, _, _, _, h => ⟨h.1, fun i hi => wpOp_mono (fun a' w' h' => any_of_E f _ a' w' h'.2) (h.2 i hi)⟩
theorem E_first {i : Nat} {oi : Oper} {v : Value} (hs : Region.sinkB .any ops n = true) (hc : Region.chainB .any ops n = true) (hn : n < ops.size) (hin : i < n) (hi : ops[i]? = some oi)
    (hsel : ∀ (j : Nat) (o : Oper) cs b, ops[j]? = some o → o.op ≠ .select cs b) (hQ : ∀ c a w, Q (.panic c) (a.put oi.dst v) w → Q (.panic c) a w) :
    ∀ (f : Nat) (l : Array Bool) (a : Act) (w : World), HeadInv .any ops n l →
      (∀ j oj, ops[j]? = some oj → j ≠ i → l.getD j true = false → (∀ e ∈ oj.after, Region.binds .any e = true → e.on ≠ i) → oi.apart ops oj = true) →
      i ∈ Region.ready .any ops l → YieldsIf P ops S oi v a → S w → AnyE P ops Q S n f (l.setIfInBounds i true) (a.put oi.dst v) w → AnyE P ops Q S n (f + 1) l a w := by
  intro f
  induction f with
  | zero =>
    intro l a w _ _ hr hy hS H
    refine ⟨fun h => (by rw [h] at hr; cases hr), fun j hj => ?_⟩
    by_cases hji : j = i
    · subst hji; exact hy.wpOp hi hS ⟨fun _ => hS, H⟩
    · have := ready_mono hj hji
      rw [H.1] at this
      cases this
  | succ f ih =>
    intro l a w inv hfree hr hy hS H
    refine ⟨fun h => (by rw [h] at hr; cases hr), fun j hj => ?_⟩
    by_cases hji : j = i
    · subst hji; exact hy.wpOp hi hS ⟨fun _ => hS, H⟩
    have hun := (mem_ready.1 hr).1
    have hjn : j < n := by
      rcases Nat.lt_or_ge j n with h | h
      · exact h
      · exact absurd hj (tail_waits hs hc hn inv _ i rfl hin hun j h)
    have h1 := H.2 j (ready_mono hj hji)
    obtain ⟨hjun, oj, hoj, hall⟩ := mem_ready.1 hj
    have hnot : ∀ e ∈ oj.after, Region.binds .any e = true → e.on ≠ i := fun e he hb heq => by
      have h2 := hall e he hb
      rw [heq, getD_both hun] at h2
      cases h2
    refine wpOp_mono (fun a' w' h3 => ?_) (wpOp_putIf hoj (hfree j oj hoj hji hjun hnot) (fun cs b => hsel i oi cs b hi) (fun cs b => hsel j oj cs b hoj) hQ hy h1)
    have hSw := h3.2.1 hjn
    refine ⟨fun _ => hSw, ih (l.setIfInBounds j true) a' w' (inv.set hj hjn) (fun k ok hk hki hk2 hno => hfree k ok hk hki ?_ hno) (ready_mono hr (Ne.symm hji)) h3.1 hSw ?_⟩
    · by_cases hjk : j = k
      · rw [← hjk]; exact hjun
      · rw [getD_set_ne true hjk] at hk2; exact hk2
    · rw [Array.setIfInBounds_comm _ _ hji]
      exact h3.2.2
/-- The same, with what is known of the list at the beginning. -/
def AnyT (P : Program) (ops : Array Oper) (Q : Exit → Act → World → Prop) (S : World → Prop) (n f : Nat) (l : Array Bool) (a : Act) (w : World) : Prop := HeadInv .any ops n l → AnyE P ops Q S n f l a w
theorem E_take {i f : Nat} {oi : Oper} {v : Value} {l : Array Bool} {a : Act} {w : World} (hi : ops[i]? = some oi) (hck : (Region.sinkB .any ops n && (Region.chainB .any ops n && (decide (n < ops.size) && (decide (i < n) && (Region.noSelect ops && (Region.free .any ops l i && (Region.ready .any ops l).contains i)))))) = true)
    (hQ : ∀ c a w, Q (.panic c) (a.put oi.dst v) w → Q (.panic c) a w) (hy : YieldsIf P ops S oi v a) (hS : S w)
    (h : AnyT P ops Q S n f (l.setIfInBounds i true) (a.put oi.dst v) w) : AnyT P ops Q S n (f + 1) l a w := fun inv => by
  simp only [Bool.and_eq_true, decide_eq_true_eq] at hck
  obtain ⟨hs, hc, hn, hin, hsel, hf, hr⟩ := hck
  have hr' : i ∈ Region.ready .any ops l := by simpa using hr
  exact E_first hs hc hn hin hi (Region.noSelect_spec hsel) hQ f l a w inv (Region.free_spec hi hf) hr' hy hS (h (inv.set hr' hin))
/-- Each of the operations rs comes up next. -/
def AllE (P : Program) (ops : Array Oper) (Q : Exit → Act → World → Prop) (S : World → Prop) (n f : Nat) (l : Array Bool) (a : Act) (w : World) (rs : List Nat) : Prop :=
  ∀ i ∈ rs, i ∈ Region.ready .any ops l → i < n → HeadInv .any ops n l → wpOp P ops Q i (fun a' w' => (i < n → S w') ∧ AnyE P ops Q S n f (l.setIfInBounds i true) a' w') a w
theorem AllE.nil {f : Nat} {l : Array Bool} {a : Act} {w : World} : AllE P ops Q S n f l a w [] := fun _ h => by cases h
theorem AllE.cons {f i : Nat} {l : Array Bool} {a : Act} {w : World} {o : Oper} {rs : List Nat} (ho : ops[i]? = some o)
    (h : ∀ K' : Act → World → Prop, Shut (∀ a w, S w → (S w → AnyT P ops Q S n f (l.setIfInBounds i true) a w) → K' a w) → if Region.wanted o (yielded ops a.tmps) = true then Oper.wp P o a w K' Q else K' (a.put o.dst undef) w)
    (hs : AllE P ops Q S n f l a w rs) : AllE P ops Q S n f l a w (i :: rs) := fun j hj hr hin inv => by
  rcases List.mem_cons.1 hj with rfl | hj
  · exact wpOp_step ho (fun K' hK => h K' (fun a w hS hW => hK a w ⟨fun _ => hS, hW hS (inv.set hr hin)⟩))
  · exact hs j hj hr hin inv
theorem E_ready {f : Nat} {l : Array Bool} {a : Act} {w : World} {rs : List Nat} (hr : Region.ready .any ops l = rs) (hne : (rs.isEmpty = false) ∧ rs.all (fun i => decide (i < n)) = true) (h : AllE P ops Q S n f l a w rs) : AnyT P ops Q S n (f + 1) l a w := fun inv =>
  ⟨fun h0 => (by rw [hr] at h0; rw [h0] at hne; exact absurd hne.1 (by decide)), fun i hi => by
    have hi' := hi
    rw [hr] at hi'
    exact h i hi' hi (of_decide_eq_true (List.all_eq_true.1 hne.2 i hi')) inv⟩
/-- The store, alone. -/
theorem E_last {f : Nat} {l : Array Bool} {a : Act} {w : World} {o : Oper} (hr : Region.ready .any ops l = [n]) (ho : ops[n]? = some o) (hr2 : Region.ready .any ops (l.setIfInBounds n true) = [])
    (h : ∀ K' : Act → World → Prop, Shut (∀ a w, Q .normal a w → K' a w) → if Region.wanted o (yielded ops a.tmps) = true then Oper.wp P o a w K' Q else K' (a.put o.dst undef) w) : AnyT P ops Q S n (f + 1) l a w := fun _ =>
  ⟨fun h0 => (by rw [hr] at h0; cases h0), fun i hi => by
    rw [hr] at hi
    obtain rfl : i = n := by simpa using hi
    refine wpOp_step ho (fun K' hK => h K' (fun a w hq => hK a w ⟨fun h => absurd h (Nat.lt_irrefl _), ?_⟩))
    cases f with
    | zero => exact ⟨hr2, hq⟩
    | succ f => exact ⟨fun _ => hq, by rw [hr2]; intro j hj; cases hj⟩⟩
theorem head_start (n m : Nat) (h : ops.size = m) : HeadInv .any ops n (Array.replicate m false) :=
  ⟨by simp [h], fun j oj _ hl => (by rw [getD_replicate_false] at hl; cases hl), fun t _ ht => (by
    have : t < m := by omega
    simp [this])⟩
/-- The beginning. -/
theorem E_start {id : Nat} {a : Act} {w : World} (n : Nat) (hm : P.follows .mixedOrders = true) (hS : S w.drew) (h : S w.drew → AnyT P ops Q S n ops.size (Array.replicate ops.size false) a w.drew) : (Code.region id ops true).wp P Q a w :=
  wp_region_any hm (any_of_E _ _ _ _ (h hS (head_start n _ rfl)))
end
theorem wpList_append_run {P : Program} {w w' : World} {ops : Array Oper} {rest : List Oper} {o : Oper} {a : Act} {Q : Exit → Act → World → Prop} (hgd : o.guard = none) (s x : Operand) (t : TypeId)
    (ho : o.op = .call { callee := .builtin .append, args := #[s, x], argTypes := #[t, t] }) (v y v' : Value) (hs : a.eval s = v) (hx : a.eval x = y) (hr : (Builtin.append_ #[t, t] o.type #[v, y]).run P w = .ok v' w') (h : wpList P ops Q rest (a.put o.dst v') w') : wpList P ops Q (o :: rest) a w :=
  wpList_plain hgd fun _ hK => by
    unfold Oper.wp execOp
    simp only [ho, resolve, invoke, builtin, Sem.run_bind, Sem.run_pure, Result.andThen_ok, List.map_toArray, List.map_cons, List.map_nil, hs, hx, hr]
    exact hK _ _ h
end Go.Proofs.YtakgjlpgcepnkaaGreat

/-! An append keeps the row that was appended to, as it was. Nothing of the program -/
namespace Go.Proofs.YtakgjlpgcepnkaaGreat
open Go.RowKit Go.Lib

section
variable {P : Program} (w : World)
theorem append_old (t ty : TypeId) (base : Nat) (e : TypeId) (i : TypeInfo) (z : Value) (size bytes : Nat) (ht : P.underlying t = some (.slice e)) (hi : P.info? e = some i) (hz : i.zero = some z)
    (hsize : i.size = size) (hby : i.bytes = bytes)
    (v : Value) (n : Nat) (xs : List Value) (hown : w.ownsRow base e size v n xs)
    (ad : Addr) (m c : Nat) (news : List Value) (hl : news.length = m * size) (hnews : ∀ j u, news[j]? = some u → w.cell? (ad.add j) = some u) (h1 : ∀ u ∈ news, u.oneCell' = true)
    (h63 : n + m ≤ maxLen) (hbytes : (n + m) * bytes ≤ 140737488355328) {v' : Value} {w' : World}
    (hr : (Builtin.append_ #[t, t] ty #[v, .slice (some ad) m c]).run P w = .ok v' w') : w'.ownsRow base e size v n xs := by
  subst hsize hby
  rcases hown.2 with ⟨rfl, rfl⟩ | ⟨g, cap, cur, rfl, hbg, hg, hnc, hcm, hcs, htake⟩
  · exact ⟨hown.1, .inl ⟨rfl, rfl⟩⟩
  · have hsm : n + m ≤ 9223372036854775807 := by simp only [maxLen] at h63; omega
    by_cases hroom : n + m ≤ cap
    · have hfit : n * i.size + news.length ≤ cur.size := by rw [hl, hcs, ← Nat.add_mul]; exact Nat.mul_le_mul_right _ hroom
      have h2 := run_append_room (P := P) w t ty e i ht hi g n cap cur hg ad m c news hl hnews h1 hroom hfit
      rw [h2] at hr
      injection hr with _ hw
      subst hw
      have hlen : xs.length = n * i.size := hown.1
      refine ⟨hown.1, .inr ⟨g, cap, _, rfl, hbg, setRow_heap w g cur _ e _ hg, hnc, hcm, ?_, ?_⟩⟩
      · simp only [List.size_toArray, List.length_append, List.length_take, List.length_drop, Array.length_toList]
        omega
      · rw [htake]
        show List.take (n * i.size) (xs ++ news ++ _) = xs
        rw [List.append_assoc, ← hlen]
        exact List.take_left
    · have holds : ∀ j u, xs[j]? = some u → w.cell? ((⟨g, 0, none⟩ : Addr).add j) = some u := hown.cells (g := g) rfl
      have hz0 := hz
      have h2 := run_append_grow (P := P) w t ty e i z ht hi hz ⟨g, 0, none⟩ n cap xs hown.1 holds ad m c news hl hnews (by omega) (by omega) (growslice_fits (by omega) hbytes)
      rw [h2] at hr
      injection hr with _ hw
      subst hw
      exact hown.drew.alloc _
end
theorem step_append_keeps {P : Program} {w : World} {ops : Array Oper} {o : Oper} {a : Act} {K : Act → World → Prop} {Q : Exit → Act → World → Prop} {E : Prop} (hgd : o.guard = none) (s x : Operand) (t : TypeId)
    (ho : o.op = .call { callee := .builtin .append, args := #[s, x], argTypes := #[t, t] })
    (base : Nat) (e : TypeId) (i : TypeInfo) (z : Value) (size bytes : Nat) (ht : P.underlying t = some (.slice e)) (hi : P.info? e = some i) (hz : i.zero = some z)
    (hsize : i.size = size) (hby : i.bytes = bytes) (hzs : z.cells.size = size) (hsz : 0 < size)
    (v : Value) (n : Nat) (xs : List Value) (hs : a.eval s = v) (hown : w.ownsRow base e size v n xs)
    (ad : Addr) (m c : Nat) (news : List Value) (hx : a.eval x = .slice (some ad) m c) (hl : news.length = m * size) (hnews : ∀ j u, news[j]? = some u → w.cell? (ad.add j) = some u) (h1 : ∀ u ∈ news, u.oneCell' = true)
    (hm : 0 < m) (h63 : n + m ≤ maxLen) (hbytes : (n + m) * bytes ≤ 140737488355328) (hbase : base ≤ w.heap.size) (H : Nat) (hH : w.heap.size = H)
    (h : ∀ g cap w', w'.ownsRow base e size (.slice (some ⟨g, 0, none⟩) (n + m) cap) (n + m) (xs ++ news) → w.grownBy w' v.ownBlock → (v.ownBlock = some g ∨ g = H) → g < w'.heap.size → w'.ownsRow base e size v n xs → K (a.put o.dst (.slice (some ⟨g, 0, none⟩) (n + m) cap)) w') :
    if Region.wanted o (yielded ops a.tmps) = true then Oper.wp P o a w K Q else E := by
  have hw : Region.wanted o (yielded ops a.tmps) = true := by simp [Region.wanted, hgd]
  rw [if_pos hw]
  obtain ⟨g, cap, w', hr, h2, h3, h4, h5⟩ := run_append_lies (P := P) w t o.type base e i z size bytes ht hi hz hsize hby hzs hsz v n xs hown ad m c news hl hnews h1 hm h63 hbytes hbase H hH
  have h6 := append_old w t o.type base e i z size bytes ht hi hz hsize hby v n xs hown ad m c news hl hnews h1 h63 hbytes hr
  unfold Oper.wp execOp
  simp only [ho, resolve, invoke, builtin, Sem.run_bind, Sem.run_pure, Result.andThen_ok, List.map_toArray, List.map_cons, List.map_nil, hs, hx, hr]
  exact h g cap w' h2 h3 h4 h5 h6
end Go.Proofs.YtakgjlpgcepnkaaGreat

/-! Rows of symbols, and images, plain. Nothing of the program -/
namespace Go.Proofs.YtakgjlpgcepnkaaGreat
open Go.RowKit Go.Lib Go.ChangeShapes Go.WideShapes Go.Deep

/-- A symbol: its name, where it begins, how many bytes it has. -/
structure SyL where
  name : ByteArray
  start : Int
  size : Int
def syV (t : SyL) : List Value := [.string t.name, .int .i64 t.start, .int .i64 t.size]
def sysV (l : List SyL) : List Value := l.flatMap syV
theorem syV_length (t : SyL) : (syV t).length = 3 := rfl
theorem sysV_length (l : List SyL) : (sysV l).length = l.length * 3 := by
  induction l with
  | nil => rfl
  | cons t r ih => simp only [sysV, List.flatMap_cons, List.length_append, syV_length, List.length_cons] at ih ⊢; omega
theorem sysV_append (a b : List SyL) : sysV (a ++ b) = sysV a ++ sysV b := by simp [sysV]
theorem sysV_one (t : SyL) : sysV [t] = syV t := by simp [sysV]
theorem sysV_get (l : List SyL) (j i : Nat) (h : j < l.length) (hi : i < 3) : (sysV l)[j * 3 + i]? = (syV l[j])[i]? := by
  induction l generalizing j with
  | nil => simp at h
  | cons t r ih =>
    cases j with
    | zero =>
      simp only [sysV, List.flatMap_cons, Nat.zero_mul, Nat.zero_add, List.getElem_cons_zero]
      rw [List.getElem?_append_left (by rw [syV_length]; exact hi)]
    | succ j =>
      have e : (j + 1) * 3 + i = 3 + (j * 3 + i) := by omega
      simp only [sysV, List.flatMap_cons, List.getElem_cons_succ] at ih ⊢
      rw [e, List.getElem?_append_right (by rw [syV_length]; omega), syV_length, Nat.add_sub_cancel_left]
      exact ih j (by simpa using h)

/-- What a call may read of a row of symbols: its j-th element. -/
def ReadSy (w : World) (a : Option Addr) (l : List SyL) : Prop :=
  ∀ j (h : j < l.length), ∃ g, a = some ⟨g, 0, none⟩ ∧ g < w.heap.size ∧ w.cell? ⟨g, j * 3, none⟩ = some (.string l[j].name) ∧ w.cell? ⟨g, j * 3 + 1, none⟩ = some (.int .i64 l[j].start) ∧ w.cell? ⟨g, j * 3 + 2, none⟩ = some (.int .i64 l[j].size)
theorem readSy_of {B T c : Nat} {w : World} {a : Option Addr} {l : List SyL} (h : w.ownsRow B T 3 (.slice a l.length c) l.length (sysV l)) : ReadSy w a l := by
  intro j hj
  rcases h.2 with ⟨he, h0⟩ | ⟨g, cap, cur, he, hB, hg, _⟩
  · omega
  · have ha : a = some ⟨g, 0, none⟩ := by injection he
    subst ha
    have hlt : g < w.heap.size := by
      rcases Nat.lt_or_ge g w.heap.size with h | h
      · exact h
      · rw [Array.getElem?_eq_none h] at hg; cases hg
    refine ⟨g, rfl, hlt, ?_, ?_, ?_⟩
    · rw [h.cellAt _ (by omega)]; exact sysV_get l j 0 hj (by omega)
    · rw [h.cellAt _ (by omega)]; exact sysV_get l j 1 hj (by omega)
    · rw [h.cellAt _ (by omega)]; exact sysV_get l j 2 hj (by omega)
theorem ReadSy.below {w w' : World} {a : Option Addr} {l : List SyL} (h : ReadSy w a l) (hb : Below w.heap.size w w') : ReadSy w' a l := by
  intro j hj
  obtain ⟨g, e, hg, c0, c1, c2⟩ := h j hj
  exact ⟨g, e, Nat.lt_of_lt_of_le hg hb.size, (hb.cell (p := ⟨g, _, none⟩) hg).trans c0, (hb.cell (p := ⟨g, _, none⟩) hg).trans c1, (hb.cell (p := ⟨g, _, none⟩) hg).trans c2⟩
/-- What a function returns that makes a row of symbols, in a row of its own from block B on. -/
def Syms (T B : Nat) (l : List SyL) (w : World) (e : Ending) (w' : World) : Prop :=
  ∃ v, e = .returned v ∧ w'.ownsRow B T 3 v l.length (sysV l) ∧ Below w.heap.size w w'
/-- The first k of a row are the symbols l, the rest is R. -/
def headSy (k : Nat) (l : List SyL) (R : List Value) : List Value := sysV (l.take k) ++ R
theorem headSy_set (k : Nat) (l : List SyL) (h : k < l.length) (a b c : Value) (R : List Value) :
    ((((headSy k l (a :: b :: c :: R)).set (k * 3) (.string l[k].name)).set (k * 3 + 1) (.int .i64 l[k].start)).set (k * 3 + 2) (.int .i64 l[k].size)) = headSy (k + 1) l R := by
  have hl : (sysV (l.take k)).length = k * 3 := by rw [sysV_length, List.length_take]; omega
  have e : sysV (l.take (k + 1)) = sysV (l.take k) ++ syV l[k] := by
    rw [List.take_succ_eq_append_getElem h, sysV_append, sysV_one]
  unfold headSy
  rw [e, List.set_append_right _ _ (by omega), List.set_append_right _ _ (by omega), List.set_append_right _ _ (by omega), hl, List.append_assoc]
  congr 1
  rw [Nat.sub_self, Nat.add_sub_cancel_left, Nat.add_sub_cancel_left]
  rfl
def sumSy (l : List SyL) : Nat := (l.map (·.name.size)).sum
theorem sumSy_snoc (l : List SyL) (k : Nat) (h : k < l.length) : sumSy (l.take (k + 1)) = sumSy (l.take k) + l[k].name.size := by
  unfold sumSy
  rw [List.take_succ_eq_append_getElem h, List.map_append, List.sum_append]; rfl
theorem sumSy_all (l : List SyL) : sumSy (l.take l.length) = sumSy l := by rw [List.take_of_length_le (Nat.le_refl _)]
theorem sumSy_mem (l : List SyL) (t : SyL) (h : t ∈ l) : t.name.size ≤ sumSy l := by
  induction l with
  | nil => cases h
  | cons x r ih =>
    simp only [sumSy, List.map_cons, List.sum_cons] at ih ⊢
    rcases List.mem_cons.1 h with rfl | h
    · omega
    · have := ih h; omega
/-- A row of symbols that came in: the symbols l. -/
def ArgSy (w : World) (a : Option Addr) (l : List SyL) : Prop :=
  ∀ j (h : j < l.length), ∃ x, a = some x ∧ x.block < w.heap.size ∧ w.cell? (x.add (j * 3)) = some (.string l[j].name) ∧ w.cell? ⟨(x.add (j * 3)).block, (x.add (j * 3)).off + 1, none⟩ = some (.int .i64 l[j].start) ∧ w.cell? ⟨(x.add (j * 3)).block, (x.add (j * 3)).off + 2, none⟩ = some (.int .i64 l[j].size) ∧
    l[j].name.size ≤ maxLen ∧ (Lit.int .i64 l[j].start).wf = true ∧ (Lit.int .i64 l[j].size).wf = true
theorem ArgSy.below {w w' : World} {a : Option Addr} {l : List SyL} (h : ArgSy w a l) (hb : Below w.heap.size w w') : ArgSy w' a l := by
  intro j hj
  obtain ⟨x, e, hx, c0, c1, c2, r⟩ := h j hj
  exact ⟨x, e, Nat.lt_of_lt_of_le hx hb.size, (hb.cell (by rw [addr_block]; exact hx)).trans c0, (hb.cell (p := ⟨_, _, none⟩) (by rw [addr_block]; exact hx)).trans c1, (hb.cell (p := ⟨_, _, none⟩) (by rw [addr_block]; exact hx)).trans c2, r⟩
section
variable {H : Type} {enc : TypeId × Value → H} {P : Program} {w : World} {base : Nat} {spare : Nat → Bool} {held : Bool}
theorem argSy_of {t e : TypeId} {f0 f1 f2 : Field} {a : Option Addr} {len cap : Nat} {d : DataW H} {p : List MemPlace} (ht : P.underlying t = some (.slice e)) (he : P.underlying e = some (.struct #[f0, f1, f2]))
    (hone : oneCellFields P #[f0, f1, f2] = true) (hC : P.cellsOf e = 3) (h0 : P.underlying f0.type = some .string) (h1 : P.underlying f1.type = some (.int .i64)) (h2 : P.underlying f2.type = some (.int .i64))
    (h : DataW.Trod enc P w 0 (fun _ => true) held t (.slice a len cap) d p) : ∃ l : List SyL, l.length = len ∧ len ≤ maxLen ∧ ArgSy w a l := by
  obtain ⟨fuel, hf⟩ := h
  rcases open_fields ht he hone hC hf with hcs | ⟨x, len', cap', m, hcs, hl, hm, rfl, hi⟩
  · simp [Value.cells] at hcs
    obtain ⟨rfl, rfl, rfl⟩ := hcs
    exact ⟨[], rfl, by simp [maxLen], fun j hj => absurd hj (by simp)⟩
  · simp [Value.cells] at hcs
    obtain ⟨rfl, rfl, rfl⟩ := hcs
    obtain ⟨l, hll, hq⟩ := list_of len (fun j (t : SyL) => w.cell? (x.add (j * 3)) = some (.string t.name) ∧ w.cell? ⟨(x.add (j * 3)).block, (x.add (j * 3)).off + 1, none⟩ = some (.int .i64 t.start) ∧ w.cell? ⟨(x.add (j * 3)).block, (x.add (j * 3)).off + 2, none⟩ = some (.int .i64 t.size) ∧ t.name.size ≤ maxLen ∧ (Lit.int .i64 t.start).wf = true ∧ (Lit.int .i64 t.size).wf = true) (fun j hj => by
      obtain ⟨n, hn⟩ := hi j (by omega)
      obtain ⟨v0, y0, c0, t0⟩ := hn 0 f0 rfl
      obtain ⟨v1, y1, c1, t1⟩ := hn 1 f1 rfl
      obtain ⟨v2, y2, c2, t2⟩ := hn 2 f2 rfl
      obtain ⟨k, e0, _, w0⟩ := DataW.trod_string h0 t0
      obtain ⟨m, e1, _, w1⟩ := DataW.trod_int h1 t1
      obtain ⟨s, e2, _, w2⟩ := DataW.trod_int h2 t2
      injection e0 with e0; injection e1 with e1; injection e2 with e2
      subst e0 e1 e2
      exact ⟨⟨k, m, s⟩, c0, (add_in x (j * 3) 0) ▸ c1, (add_in x (j * 3) 1) ▸ c2, w0, w1, w2⟩)
    exact ⟨l, hll, by omega, fun j hj => ⟨x, rfl, by have := World.block_lt_of_cell? w _ (hq j hj).1; rw [addr_block] at this; exact this, hq j hj⟩⟩

theorem argSy_at {t e : TypeId} {f0 f1 f2 : Field} {v : Value} {fuel : Nat} {y : DataW H × List MemPlace} (ht : P.underlying t = some (.slice e)) (he : P.underlying e = some (.struct #[f0, f1, f2]))
    (hone : oneCellFields P #[f0, f1, f2] = true) (hC : P.cellsOf e = 3) (h0 : P.underlying f0.type = some .string) (h1 : P.underlying f1.type = some (.int .i64)) (h2 : P.underlying f2.type = some (.int .i64))
    (h : DataW.trod enc P w 0 (fun _ => true) held fuel t [v] = some y) : ∃ (a : Option Addr) (c : Nat) (l : List SyL), v = .slice a l.length c ∧ l.length ≤ maxLen ∧ ArgSy w a l := by
  have hv : ∃ a n c, v = .slice a n c := by
    rcases open_slice ht h with h0 | ⟨a, len, cap, m, n, D, Pl, hcs, _⟩
    · have := h0.1; simp at this; exact ⟨_, _, _, this⟩
    · simp at hcs; exact ⟨_, _, _, hcs⟩
  obtain ⟨a, n, c, rfl⟩ := hv
  obtain ⟨l, hl, hm, ha⟩ := argSy_of (d := y.1) (p := y.2) ht he hone hC h0 h1 h2 ⟨fuel, by simpa [Value.cells] using h⟩
  subst hl
  exact ⟨a, c, l, rfl, hm, ha⟩
end

/-- Does a symbol hold an offset? -/
def syIn (x : SyL) (o : Int) : Bool := (decide (0 ≤ x.start) && decide (x.start ≤ 1000000)) && ((decide (0 ≤ x.size) && decide (x.size ≤ 1000000)) && (decide (x.start ≤ o) && decide (o < x.start + x.size)))
def symF (o : Int) : Nat → List SyL → Int
  | _, [] => -1
  | k, x :: r => if syIn x o = true then (k : Int) else symF o (k + 1) r
def symZ (l : List SyL) (o : Int) : Int := symF o 0 l
theorem symF_at (l : List SyL) (o : Int) (k : Nat) (h : k < l.length) : symF o k (l.drop k) = if syIn l[k] o = true then (k : Int) else symF o (k + 1) (l.drop (k + 1)) := by
  rw [List.drop_eq_getElem_cons h]; rfl
theorem symF_out (l : List SyL) (o : Int) (k : Nat) (h : l.length ≤ k) : symF o k (l.drop k) = -1 := by rw [List.drop_eq_nil_of_le h]; rfl
/-- Are the symbols from the k-th on as an image has them? at: where the next one is to begin. -/
def imgF (c : List UInt8) : List ByteArray → Nat → List SyL → Bool
  | _, a, [] => decide (a = c.length)
  | seen, a, x :: r => (decide (x.start = (a : Int)) && (decide (1 ≤ x.size) && decide (x.size ≤ (c.length : Int) - (a : Int)))) && (nameB x.name && (!(seen.any fun n => decide (n = x.name)) && ((disZ ((c.drop a).take x.size.toNat)).isSome && imgF c (x.name :: seen) (a + x.size.toNat) r)))
def imgB (c : List UInt8) (l : List SyL) : Bool := decide (c.length ≤ 1000000) && imgF c [] 0 l
end Go.Proofs.YtakgjlpgcepnkaaGreat

/-! Items as an argument of a law, plain. Nothing of the program -/
namespace Go.Proofs.YtakgjlpgcepnkaaGreat
open Go.RowKit Go.Lib Go.ChangeShapes Go.WideShapes Go.Deep

structure PIt where
  code : Int
  arg : Int
  line : Int
  start : Bool
  chain : List Int
  depth : Int
  ent : Bool
structure AIt where
  p : PIt
  a : Option Addr
  c : Nat
def ArgIn (w : World) (a : Option Addr) (l : List Int) : Prop := ∀ k (h : k < l.length), ∃ x, a = some x ∧ x.block < w.heap.size ∧ w.cell? (x.add k) = some (.int .i64 l[k])
theorem ArgIn.below {w w' : World} {a : Option Addr} {l : List Int} (h : ArgIn w a l) (hb : Below w.heap.size w w') : ArgIn w' a l := fun k hk => by
  obtain ⟨x, e, h1, h2⟩ := h k hk
  exact ⟨x, e, Nat.lt_of_lt_of_le h1 hb.size, (hb.cell (by rw [addr_block]; exact h1)).trans h2⟩
section
variable {H : Type} {enc : TypeId × Value → H} {P : Program} {w : World} {held : Bool}
end
/-- An item in memory: its chain in a row. -/
structure VIt where
  p : PIt
  v : Value
theorem int_set (k : Nat) (l : List Int) (h : k < l.length) (a : Value) (R : List Value) : (intV (l.take k) ++ a :: R).set k (.int .i64 l[k]) = intV (l.take (k + 1)) ++ R := by
  have hl : (intV (l.take k)).length = k := by rw [intV_length, List.length_take]; omega
  rw [List.set_append_right _ _ (by omega), hl, Nat.sub_self, List.take_succ_eq_append_getElem h]
  unfold intV
  rw [List.map_append, List.append_assoc]
  rfl
end Go.Proofs.YtakgjlpgcepnkaaGreat
