/- Disassemble, the model's and the program's: rows of instructions. -/
import Derived.Test.YtljmkkodhnkemaaOpDecA
import Derived.Deep.AppendLies
namespace Go.Proofs.Ytljmkkodhnkemaa
open Go.RowKit Go.Lib

def opV (L : List OpL) : List Value := L.flatMap fun x => [.int .i64 x.code, .int .i64 x.arg]
theorem opV_length (L : List OpL) : (opV L).length = L.length * 2 := by
  induction L with
  | nil => rfl
  | cons x r ih => unfold opV at ih ⊢; rw [List.flatMap_cons, List.length_append, ih, List.length_cons]; simp; omega
theorem opV_append (A B : List OpL) : opV (A ++ B) = opV A ++ opV B := by unfold opV; rw [List.flatMap_append]
theorem infoO : (Try.prog.info? 93).map (fun i => (i.zero, i.size, i.bytes)) = some (some (.agg #[.int .i64 0, .int .i64 0]), 2, 16) := by kernel_rfl
/-- What Disassemble returns: the row, and whether there is one. -/
def disL (l : List UInt8) : List OpL := (disZ l).getD []
def disB (l : List UInt8) : Bool := (disZ l).isSome
theorem decZ_drop (l : List UInt8) (k : Nat) : decZ l (k : Int) = dec1 (l.drop k) := by unfold decZ; rw [if_neg (by omega), Int.toNat_natCast]
/-- How far a walk has come. -/
def Dis (l : List UInt8) (k : Nat) (D : List OpL) : Prop := disZ l = (disZ (l.drop k)).map (D ++ ·) ∧ D.length ≤ k ∧ k ≤ l.length
theorem Dis.start (l : List UInt8) : Dis l 0 [] := ⟨by rw [List.drop_zero]; cases disZ l <;> rfl, Nat.le_refl _, Nat.zero_le _⟩
theorem Dis.next {l : List UInt8} {k : Nat} {D : List OpL} (h : Dis l k D) {x : OpL} {n : Nat} (hx : dec1 (l.drop k) = some (x, n)) : Dis l (k + n) (D ++ [x]) := by
  have hs := dec1_size _ _ _ hx
  rw [List.length_drop] at hs
  refine ⟨?_, by rw [List.length_append, List.length_singleton]; have := h.2.1; omega, by omega⟩
  rw [h.1, disZ_next _ _ _ hx, List.drop_drop]
  cases disZ (l.drop (k + n)) with
  | none => rfl
  | some q => simp
theorem Dis.bad {l : List UInt8} {k : Nat} {D : List OpL} (h : Dis l k D) (hk : k < l.length) (hx : dec1 (l.drop k) = none) : disL l = [] ∧ disB l = false := by
  have : disZ l = none := by rw [h.1, disZ_bad _ (by intro e; have := congrArg List.length e; rw [List.length_drop] at this; simp at this; omega) hx]; rfl
  unfold disL disB
  rw [this]
  exact ⟨rfl, rfl⟩
theorem Dis.done {l : List UInt8} {k : Nat} {D : List OpL} (h : Dis l k D) (hk : k = l.length) : disL l = D ∧ disB l = true := by
  have : disZ l = some D := by rw [h.1, hk, List.drop_length, disZ_nil]; simp
  unfold disL disB
  rw [this]
  exact ⟨rfl, rfl⟩
/-- A row of instructions that a call has made. -/
def OpRow (B : Nat) (L : List OpL) (b : Bool) (w : World) (e : Ending) (w' : World) : Prop :=
  ∃ v, e = .returned (.tuple #[v, .bool b]) ∧ w'.ownsRow B 93 2 v L.length (opV L) ∧ Below B w w'
theorem below_appO {B e n s : Nat} {w0 wr w1 : World} {X : Obj} {v : Value} {xs : List Value} (hown : wr.ownsRow B e s v n xs) (hbel : Below B w0 wr) (hB : B ≤ wr.heap.size)
    (hg : (wr.alloc X).grownBy w1 v.ownBlock) : Below B w0 w1 :=
  (hbel.alloc hB X).grown hg (by simp; omega) (fun k hk => (hown.lt k hk).1)
end Go.Proofs.Ytljmkkodhnkemaa
