/- Folding, plain: what hangs on the lines' kinds, names and arguments alone. Nothing of the program. -/
import Derived.Test.YtcnnfhcpkbjolaaFoldRun
namespace Go.Proofs.Ytcnnfhcpkbjolaa
open Go.RowKit Go.Lib

/-- The program with its expressions folded. -/
def foldL (x : PLine) : PLine := ⟨x.kind, x.name, x.args, foldE x.expr⟩
def foldP (p : List PLine) : List PLine := p.map foldL
theorem foldP_length (p : List PLine) : (foldP p).length = p.length := by simp [foldP]
theorem foldP_get (p : List PLine) (k : Nat) (h : k < (foldP p).length) (h' : k < p.length) : (foldP p)[k] = foldL p[k] := by simp [foldP]
theorem foldP_at (p : List PLine) (k : Nat) : (foldP p)[k]? = (p[k]?).map foldL := by simp [foldP]
theorem foldP_drop (p : List PLine) (k : Nat) : (foldP p).drop k = foldP (p.drop k) := by simp [foldP, List.map_drop]
theorem foldP_take (p : List PLine) (k : Nat) : (foldP p).take k = foldP (p.take k) := by simp [foldP, List.map_take]
theorem endF_fold (l : List PLine) : ∀ o i, endF o i (foldP l) = endF o i l := by
  induction l with
  | nil => intro o i; rfl
  | cons x r ih =>
    intro o i
    have e : foldP (x :: r) = foldL x :: foldP r := rfl
    have hk : (foldL x).kind = x.kind := rfl
    rw [e, endF, endF, hk, ih]
theorem lkZ_fold (p : List PLine) (k : Int) : lkZ (foldP p) k = lkZ p k := by
  unfold lkZ
  rw [foldP_at]
  cases p[k.toNat]? <;> rfl
theorem beZ_fold (p : List PLine) (k : Int) : beZ (foldP p) k = beZ p k := by
  unfold beZ
  rw [foldP_length, lkZ_fold, foldP_drop, endF_fold]
theorem elseF_fold (p : List PLine) (e : Int) : ∀ n i, elseF (foldP p) e n i = elseF p e n i := by
  intro n
  induction n with
  | zero => intro i; rfl
  | succ n ih => intro i; rw [elseF, elseF, lkZ_fold]; simp only [beZ_fold, ih]
theorem elseZ_fold (p : List PLine) (k : Int) : elseZ (foldP p) k = elseZ p k := by
  unfold elseZ
  rw [beZ_fold, lkZ_fold, elseF_fold, foldP_length]
theorem funF_fold (l : List PLine) : ∀ i, funF i (foldP l) = funF i l := by
  induction l with
  | nil => intro i; rfl
  | cons x r ih =>
    intro i
    have e : foldP (x :: r) = foldL x :: foldP r := rfl
    have hk : (foldL x).kind = x.kind := rfl
    rw [e, funF, funF, hk, ih]
theorem funs_fold (p : List PLine) : funs (foldP p) = funs p := funF_fold p 0
theorem findF_fold (n : ByteArray) (l : List PLine) : ∀ i, findF n i (foldP l) = findF n i l := by
  induction l with
  | nil => intro i; rfl
  | cons x r ih =>
    intro i
    have e : foldP (x :: r) = foldL x :: foldP r := rfl
    have hk : (foldL x).kind = x.kind := rfl
    have hn : (foldL x).name = x.name := rfl
    rw [e, findF, findF, hk, hn, ih]
theorem findZ_fold (p : List PLine) (n : ByteArray) : findZ (foldP p) n = findZ p n := findF_fold n p 0
theorem locF_fold (l : List PLine) : ∀ v, locF v (foldP l) = locF v l := by
  induction l with
  | nil => intro v; rfl
  | cons x r ih =>
    intro v
    have e : foldP (x :: r) = foldL x :: foldP r := rfl
    have hk : (foldL x).kind = x.kind := rfl
    have hn : (foldL x).name = x.name := rfl
    rw [e, locF, locF, hk, hn]
    simp only [ih]
theorem argsZ_fold (p : List PLine) (k : Int) : argsZ (foldP p) k = argsZ p k := by
  unfold argsZ
  rw [foldP_at]
  cases p[k.toNat]? <;> rfl
theorem locZ_fold (p : List PLine) (k : Int) : locZ (foldP p) k = locZ p k := by
  unfold locZ
  rw [beZ_fold, lkZ_fold, argsZ_fold, foldP_drop, foldP_take, locF_fold]
theorem elseOpen_fold (p : List PLine) (k : Nat) : elseOpen (foldP p) k = elseOpen p k := by
  unfold elseOpen
  simp only [elseZ_fold]
theorem endOpen_fold (p : List PLine) (k : Nat) : endOpen (foldP p) k = endOpen p k := by
  unfold endOpen
  simp only [beZ_fold]
theorem callVars_fold (p : List PLine) (f : Nat) (ws : List Int) : callVars (foldP p) f ws = callVars p f ws := by
  unfold callVars
  rw [locZ_fold]
theorem knownP_fold (p : List PLine) (v : List ByteArray) (t : TokL) : knownP (foldP p) v t ↔ knownP p v t := by
  unfold knownP
  rw [findZ_fold, argsZ_fold]
theorem nameAt_fold (p : List PLine) (k : Nat) : nameAt (foldP p) k = nameAt p k := by
  unfold nameAt
  rw [foldP_at]
  cases p[k]? <;> rfl
theorem exprAt_fold (p : List PLine) (k : Nat) : exprAt (foldP p) k = foldE (exprAt p k) := by
  unfold exprAt
  rw [foldP_at]
  cases p[k]? <;> rfl
end Go.Proofs.Ytcnnfhcpkbjolaa
