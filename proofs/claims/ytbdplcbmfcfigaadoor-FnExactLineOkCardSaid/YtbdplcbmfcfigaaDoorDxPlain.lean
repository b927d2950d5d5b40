/- Plain facts on the model's drawn expressions, and on memory while they are drawn. Nothing of the program. -/
import Derived.Test.YtbdplcbmfcfigaaDoorDrawPlain
import Derived.Test.YtbdplcbmfcfigaaDoorExprPlain
import Derived.Test.YtbdplcbmfcfigaaDoorTokRows
namespace Go.Proofs.YtbdplcbmfcfigaaDoor
open Go.RowKit Go.Lib

/-- The tokens l are an expression of which the last n operands are still missing. -/
def PartC (n : Nat) (l : List TokL) : Prop := ∀ r m, scanN (l ++ r) (m + 1) = (scanN r (m + n)).map (· + l.length)
theorem part_head (t : TokL) (n : Nat) (hb : tokB t = true) (ha : arZ t = (n : Int)) : PartC n [t] := by
  intro r m
  show scanN (t :: r) (m + 1) = _
  simp only [scanN]
  rw [if_pos hb, ha, Int.toNat_natCast]
  rfl
theorem part_app {n : Nat} {a b : List TokL} (ha : PartC (n + 1) a) (hb : PartC 0 b) : PartC n (a ++ b) := by
  intro r m
  rw [List.append_assoc, ha, show m + (n + 1) = (m + n) + 1 from rfl, hb, Nat.add_zero, Option.map_map]
  congr 1
  funext x
  simp only [Function.comp, List.length_append]
  omega
theorem part_done (l : List TokL) (h : PartC 0 l) : scanN l 1 = some l.length := by
  have := h [] 0
  rw [List.append_nil] at this
  rw [this]
  simp [scanN]
theorem expr_of (l : List TokL) (h : PartC 0 l) (hl : l.length ≤ 20) : exprB l = true := by
  unfold exprB
  rw [Bool.and_eq_true, decide_eq_true_eq, decide_eq_true_eq]
  refine ⟨hl, ?_⟩
  have := endZ_nat l 0
  rw [List.drop_zero, part_done l h] at this
  simpa [resZ] using this
theorem part_pos (l : List TokL) (h : PartC 0 l) : 0 < l.length := by
  cases l with
  | nil => have := part_done [] h; simp [scanN] at this
  | cons a b => simp
/-- How long a drawn expression of about n tokens may be. -/
def bdX (n : Nat) : Nat := 1 + 2 * (n - 1)
theorem bd_half (n : Nat) (h : 2 < n) : 1 + 2 * bdX (n / 2) ≤ bdX n := by unfold bdX; omega
theorem bd_quarter (n : Nat) (h : 1 < n) : 1 + 2 * bdX (n / 4) ≤ bdX n := by unfold bdX; omega
theorem bd_pos (n : Nat) : 1 ≤ bdX n := by unfold bdX; omega

/-- Texts that may be read while block c changes: a row, from some place on. -/
def TextsAt (c : Nat) (w : World) (a : Option Addr) (l : List ByteArray) : Prop :=
  ∀ j (h : j < l.length), ∃ g o, a = some ⟨g, o, none⟩ ∧ g < w.heap.size ∧ g ≠ c ∧ w.cell? ⟨g, o + j, none⟩ = some (.string l[j])
/-- Numbers likewise. -/
def NumsAt (c : Nat) (w : World) (a : Option Addr) (l : List Int) : Prop :=
  ∀ j (h : j < l.length), ∃ g o, a = some ⟨g, o, none⟩ ∧ g < w.heap.size ∧ g ≠ c ∧ w.cell? ⟨g, o + j, none⟩ = some (.int .i64 l[j])
theorem TextsAt.grown {c : Nat} {w w' : World} {a : Option Addr} {l : List ByteArray} (h : TextsAt c w a l) (hg : w.grownBy w' (some c)) : TextsAt c w' a l := by
  intro j hj
  obtain ⟨g, o, e, h1, h2, h3⟩ := h j hj
  exact ⟨g, o, e, Nat.lt_of_lt_of_le h1 hg.size, h2, hg.cell h3 (fun e => h2 (by injection e))⟩
theorem NumsAt.grown {c : Nat} {w w' : World} {a : Option Addr} {l : List Int} (h : NumsAt c w a l) (hg : w.grownBy w' (some c)) : NumsAt c w' a l := by
  intro j hj
  obtain ⟨g, o, e, h1, h2, h3⟩ := h j hj
  exact ⟨g, o, e, Nat.lt_of_lt_of_le h1 hg.size, h2, hg.cell h3 (fun e => h2 (by injection e))⟩
/-- What was grown besides in new blocks only. -/
theorem grown_new {w w1 w2 : World} {c : Nat} {r : Option Nat} (h1 : w.grownBy w1 (some c)) (h2 : w1.grownBy w2 r) (hr : ∀ g, r = some g → w.heap.size ≤ g) : w.grownBy w2 (some c) :=
  ⟨h2.os.trans h1.os, h2.tape.trans h1.tape, h2.output.trans h1.output, Nat.le_trans h1.size h2.size, fun j hj hne => (h2.block j (Nat.lt_of_lt_of_le hj h1.size) (fun e => by have := hr _ e.symm; omega)).trans (h1.block j hj hne)⟩
theorem grown_alloc {w w1 : World} {c : Nat} (h1 : w.grownBy w1 (some c)) (o : Obj) : w.grownBy (w1.alloc o) (some c) := grown_new h1 (grown_alloc' w1 o none) (fun g e => by cases e)
/-- An owned row is there still, where block c alone has changed. -/
theorem owns_far {B T n s c : Nat} {w w' : World} {v : Value} {xs : List Value} (h : w.ownsRow B T s v n xs) (hg : w.grownBy w' (some c)) (hc : c < B) : w'.ownsRow B T s v n xs :=
  h.kept hg (by
    cases h0 : v.ownBlock with
    | none => exact .inl rfl
    | some x => exact .inr (fun e => by have := (h.lt x h0).1; injection e; omega))
/-- What a function returns that draws an expression. -/
def DrawX (T T32 : TypeId) (n : Nat) (c : Nat) (a : Option Addr) (len cap : Nat) (z : List Int) (w : World) (e : Ending) (w' : World) : Prop :=
  ∃ v l, e = .returned v ∧ w'.ownsRow w.heap.size T32 3 v l.length (toksV l) ∧ PartC 0 l ∧ l.length ≤ bdX n ∧ (∀ t ∈ l, tokB t = true) ∧ CurAt T w' c a len cap z ∧ w.grownBy w' (some c)
theorem opTok (x : Int) (h0 : 0 ≤ x) (h1 : x ≤ 4) : tokB ⟨2 + x, 0, ⟨#[]⟩⟩ = true ∧ arZ ⟨2 + x, 0, ⟨#[]⟩⟩ = ((2 : Nat) : Int) := by
  have hb : tokB ⟨2 + x, 0, ⟨#[]⟩⟩ = true := by
    rw [tokB_op _ _ _ (by omega) (by omega) (by omega), decide_eq_true (by omega : 2 ≤ 2 + x), decide_eq_true (by omega : 2 + x ≤ 6)]
    rfl
  exact ⟨hb, arZ_op _ _ _ hb (by omega) (by omega) (by omega)⟩
theorem callTok (n : Int) (s : ByteArray) (h0 : 0 ≤ n) (h1 : n ≤ 2) (hs : nameB s = true) : tokB ⟨7, n, s⟩ = true ∧ arZ ⟨7, n, s⟩ = ((n.toNat : Nat) : Int) := by
  have hb : tokB ⟨7, n, s⟩ = true := by rw [tokB_7, hs, decide_eq_true h0, decide_eq_true (by omega : n ≤ 4)]; rfl
  exact ⟨hb, by rw [arZ_7 _ _ hb]; omega⟩
theorem varTok (s : ByteArray) (hs : nameB s = true) : tokB ⟨1, 0, s⟩ = true ∧ arZ ⟨1, 0, s⟩ = ((0 : Nat) : Int) := by
  have hb : tokB ⟨1, 0, s⟩ = true := by rw [tokB_1, hs]; rfl
  exact ⟨hb, arZ_1 _ _ hb⟩
theorem numTok (n : Int) (h0 : 0 ≤ n) (h1 : n ≤ 999) : tokB ⟨0, n, ⟨#[]⟩⟩ = true ∧ arZ ⟨0, n, ⟨#[]⟩⟩ = ((0 : Nat) : Int) := by
  have hb : tokB ⟨0, n, ⟨#[]⟩⟩ = true := by rw [tokB_0, decide_eq_true h0, decide_eq_true h1]; rfl
  exact ⟨hb, arZ_0 _ _ hb⟩
end Go.Proofs.YtbdplcbmfcfigaaDoor
