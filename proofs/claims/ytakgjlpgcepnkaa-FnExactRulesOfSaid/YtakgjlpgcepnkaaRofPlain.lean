/- What RulesOf makes of places, plain. Nothing of the program. -/
import Derived.Test.YtakgjlpgcepnkaaRuPlain
import Derived.Test.YtakgjlpgcepnkaaPlaPlain
import Derived.Test.YtakgjlpgcepnkaaOpPlain
namespace Go.Proofs.Ytakgjlpgcepnkaa
open Go.RowKit Go.Lib

def rofR (x : PPl) : RuL := ⟨x.off, x.off + sizZ x.p.code, x.p.ent, x.p.depth⟩
def rofJ (b r : RuL) : Bool := decide (b.stop = r.start) && (decide (b.frame = r.frame) && decide (b.depth = r.depth))
def rofS (D : List RuL) (r : RuL) : List RuL := match D.getLast? with
  | none => [r]
  | some b => if rofJ b r = true then D.dropLast ++ [⟨b.start, r.stop, b.frame, b.depth⟩] else D ++ [r]
def rofF (D : List RuL) : List PPl → List RuL
  | [] => D
  | x :: l => rofF (rofS D (rofR x)) l
def nearO (x : PPl) : Bool := decide (0 ≤ x.off) && decide (x.off ≤ 1000000)
def nearB (l : List PPl) : Bool := l.all nearO
def rofZ (l : List PPl) : List RuL := if nearB l = true then rofF [] l else []
theorem rofF_append (D : List RuL) (l m : List PPl) : rofF D (l ++ m) = rofF (rofF D l) m := by
  induction l generalizing D with
  | nil => rfl
  | cons x l ih => exact ih _
theorem rofF_next (l : List PPl) (k : Nat) (h : k < l.length) : rofF [] (l.take (k + 1)) = rofS (rofF [] (l.take k)) (rofR l[k]) := by
  rw [List.take_succ_eq_append_getElem h, rofF_append]; rfl
theorem rofS_nil (r : RuL) : rofS [] r = [r] := rfl
theorem rofS_join (P : List RuL) (b r : RuL) (h : rofJ b r = true) : rofS (P ++ [b]) r = P ++ [⟨b.start, r.stop, b.frame, b.depth⟩] := by
  unfold rofS
  rw [List.getLast?_append]
  simp [h]
theorem rofS_new (P : List RuL) (b r : RuL) (h : rofJ b r = false) : rofS (P ++ [b]) r = P ++ [b] ++ [r] := by
  unfold rofS
  rw [List.getLast?_append]
  simp [h]
theorem rofS_len (D : List RuL) (r : RuL) : (rofS D r).length ≤ D.length + 1 := by
  rcases List.eq_nil_or_concat D with rfl | ⟨P, b, rfl⟩
  · simp [rofS_nil]
  · simp only [List.concat_eq_append]
    cases h : rofJ b r
    · rw [rofS_new _ _ _ h]; simp
    · rw [rofS_join _ _ _ h]; simp
theorem rofF_len (D : List RuL) (l : List PPl) : (rofF D l).length ≤ D.length + l.length := by
  induction l generalizing D with
  | nil => exact Nat.le_refl _
  | cons x l ih => have h1 := ih (rofS D (rofR x)); have h2 := rofS_len D (rofR x); simp only [rofF, List.length_cons]; omega
theorem nearB_bad (l : List PPl) (k : Nat) (h : k < l.length) (hb : nearO l[k] = false) : nearB l = false := by
  unfold nearB
  rw [← Bool.not_eq_true, List.all_eq_true]
  intro h'
  rw [h' _ (List.getElem_mem h)] at hb
  cases hb
theorem nearB_next (l : List PPl) (k : Nat) (h : k < l.length) (h0 : nearB (l.take k) = true) (hb : nearO l[k] = true) : nearB (l.take (k + 1)) = true := by
  unfold nearB at h0 ⊢
  rw [List.take_succ_eq_append_getElem h, List.all_append, h0]
  simp [hb]
theorem nearO_is {x : PPl} (h : nearO x = true) : 0 ≤ x.off ∧ x.off ≤ 1000000 := by unfold nearO at h; simpa using h
theorem rofZ_bad (l : List PPl) (h : nearB l = false) : rofZ l = [] := by unfold rofZ; rw [h]; rfl
theorem rofZ_all (l : List PPl) (h : nearB l = true) : rofZ l = rofF [] l := by unfold rofZ; rw [if_pos h]
theorem sizZ_in (c : Int) : 0 ≤ sizZ c ∧ sizZ c ≤ 9 := by
  unfold sizZ
  split
  · constructor <;> (try unfold widN) <;> (repeat' split) <;> omega
  · omega
/-- The last rule's end, in the row. -/
theorem rusV_stop (P : List RuL) (b : RuL) (v : Int) : (rusV (P ++ [b])).set (P.length * 4 + 1) (.int .i64 v) = rusV (P ++ [⟨b.start, v, b.frame, b.depth⟩]) := by
  have hl := rusV_length P
  rw [rusV_append, rusV_append, rusV_one, rusV_one, List.set_append_right _ _ (by omega), hl, Nat.add_sub_cancel_left]
  rfl
theorem rusV_last (P : List RuL) (b : RuL) (i : Nat) (hi : i < 4) : (rusV (P ++ [b]))[P.length * 4 + i]? = (ruV b)[i]? := by
  have h := rusV_get (P ++ [b]) P.length i (by simp) hi
  rw [h]
  simp
end Go.Proofs.Ytakgjlpgcepnkaa
