/- Plain facts: Plain facts on bytes, hexadecimal figures and owned rows of bytes; Plain facts on names and tokens; Plain facts on the fields of a line; Rows of tokens in memory; Plain facts on expressions; Plain facts on decimal numerals; Plain facts on reading decimal numerals; Plain facts on the texts of tokens; Plain facts on reading tokens; Plain facts on the texts of expressions; Plain facts on reading expressions; Rows of ints in memory, and the operands' places; Reading a list of strings; Fields joined by spaces have the same fields; Arguments that are rows of tokens, or rows of strings, opened to cells; Instructions, plain: their widths, which are valid, their bytes, and what is read from bytes; Plain facts on numbers of 32 bits. -/
import Derived.WalkKit
import Derived.IntWalk
import Derived.Lib.BufferRead
import Derived.Laws.IdiomStrings
import Derived.Maps.AppendAt
import Derived.Below
import Derived.Deep.Draws
import Derived.Lib.ItoaNum
import Derived.Lib.Atoi
import Derived.Lib.AtoiErr
import Derived.Lib.AtoiAll
import Derived.Lib.AtoiTie
import Derived.Lib.IndexLaws
import Derived.Lib.Bytealg
import Derived.Lib.Join
import Derived.Deep.Slices
import Derived.Deep.Fields
import Derived.ChangeSame
import Derived.SliceStrings
import Derived.Lib.SmallJoins
/-! Plain facts: Plain facts on bytes, hexadecimal figures and owned rows of bytes; Plain facts on names and tokens; Plain facts on the fields of a line; Rows of tokens in memory; Plain facts on expressions; Plain facts on decimal numerals; Plain facts on reading decimal numerals; Plain facts on the texts of tokens; Plain facts on reading tokens; Plain facts on the texts of expressions; Plain facts on reading expressions; Rows of ints in memory, and the operands' places; Reading a list of strings; Fields joined by spaces have the same fields; Arguments that are rows of tokens, or rows of strings, opened to cells. Nothing of the program -/
/-! Plain facts on bytes, hexadecimal figures and owned rows of bytes. Nothing of the program -/
namespace Go.Proofs.YtakgjlpgcepnkaaGreat
open Go.RowKit Go.Lib

/-- The figure of a number below 16. -/
def figN (n : Nat) : Nat := if n < 10 then 48 + n else 87 + n
def figB (n : Nat) : UInt8 := UInt8.ofNat (figN n)
theorem figN_lt (n : Nat) (h : n < 16) : figN n < 256 := by unfold figN; split <;> omega
theorem figB_toNat (n : Nat) (h : n < 16) : (figB n).toNat = figN n := by
  unfold figB; have := figN_lt n h; simp [UInt8.toNat_ofNat']; omega

theorem take_snoc (s : ByteArray) (k : Nat) (h : k < s.size) : s.data.toList.take (k + 1) = s.data.toList.take k ++ [s[k]] := by
  rw [List.take_succ_eq_append_getElem (by simpa using h)]; rfl
theorem take_all (s : ByteArray) : s.data.toList.take s.size = s.data.toList := List.take_of_length_le (by simp)
theorem list_len (s : ByteArray) : s.data.toList.length = s.size := by simp
theorem byteCells_append (a b : List UInt8) : byteCells (a ++ b) = byteCells a ++ byteCells b := by simp [byteCells]
theorem byteCells_length (a : List UInt8) : (byteCells a).length = a.length := by simp [byteCells]

theorem bl_eq {a b : ByteArray} (h : a.data.toList = b.data.toList) : a = b := ByteArray.ext (Array.toList_inj.1 h)
end Go.Proofs.YtakgjlpgcepnkaaGreat

/-! Plain facts on names and tokens. Nothing of the program -/
namespace Go.Proofs.YtakgjlpgcepnkaaGreat
open Go.RowKit Go.Lib

def lowB (c : UInt8) : Bool := decide (97 ≤ c.toNat) && decide (c.toNat ≤ 122)
/-- 1 to 8 lower-case letters. -/
def nameB (s : ByteArray) : Bool := decide (1 ≤ s.size) && (decide (s.size ≤ 8) && s.data.toList.all lowB)

theorem lowB_iff (c : UInt8) : lowB c = true ↔ 97 ≤ c.toNat ∧ c.toNat ≤ 122 := by simp [lowB]
theorem low_next (s : ByteArray) (k : Nat) (h : k < s.size) (ha : (s.data.toList.take k).all lowB = true) (h1 : 97 ≤ s[k].toNat) (h2 : s[k].toNat ≤ 122) : (s.data.toList.take (k + 1)).all lowB = true := by
  rw [take_snoc s k h, List.all_append, ha]
  simp [lowB, h1, h2]
theorem nameB_short (s : ByteArray) (h : s.size = 0) : nameB s = false := by simp [nameB, h]
theorem nameB_long (s : ByteArray) (h : 8 < s.size) : nameB s = false := by unfold nameB; rw [decide_eq_false (by omega : ¬ s.size ≤ 8)]; simp
theorem nameB_bad (s : ByteArray) (k : Nat) (h : k < s.size) (hb : s[k].toNat < 97 ∨ 122 < s[k].toNat) : nameB s = false := by
  have : s.data.toList.all lowB = false := by
    rw [List.all_eq_false]
    refine ⟨s[k], ?_, ?_⟩
    · have e : s.data.toList[k]'(by simpa using h) = s[k] := rfl
      exact e ▸ List.getElem_mem _
    · intro e; have := (lowB_iff _).1 e; omega
  simp [nameB, this]
theorem nameB_good (s : ByteArray) (h1 : 1 ≤ s.size) (h2 : s.size ≤ 8) (ha : (s.data.toList.take s.size).all lowB = true) : nameB s = true := by
  rw [take_all] at ha
  simp only [nameB, ha, decide_eq_true h1, decide_eq_true h2, Bool.and_true]
theorem nameB_all (s : ByteArray) (ha : (s.data.toList.take s.size).all lowB = true) : nameB s = (decide (1 ≤ s.size) && decide (s.size ≤ 8)) := by
  rw [take_all] at ha
  simp only [nameB, ha, Bool.and_true]
/-- A token: kind, number, name. -/
structure TokL where
  kind : Int
  num : Int
  name : ByteArray
theorem ret_b {a b : Bool} (h : a = b) : Ending.returned (.bool a) = .returned (.bool b) := by rw [h]
end Go.Proofs.YtakgjlpgcepnkaaGreat

/-! Plain facts on the fields of a line. Nothing of the program -/
namespace Go.Proofs.YtakgjlpgcepnkaaGreat
open Go.RowKit Go.Lib

def okB (c : UInt8) : Bool := decide (32 ≤ c.toNat) && decide (c.toNat ≤ 126)
/-- The run from b to i, if it is not empty. -/
def cutF (s : ByteArray) (b i : Nat) : List ByteArray := if b < i then [s.extract b i] else []
/-- The fields that end before byte i, and where the next one begins; behind the last byte stands a space. -/
def sp (s : ByteArray) : Nat → List ByteArray × Nat
  | 0 => ([], 0)
  | i + 1 => if (s.data.toList[i]?).getD 32 = 32 then ((sp s i).1 ++ cutF s (sp s i).2 i, i + 1) else sp s i
def spL (s : ByteArray) : List ByteArray := (sp s (s.size + 1)).1
def spR (s : ByteArray) : List ByteArray × Bool := if s.size ≤ 600 ∧ s.data.toList.all okB = true ∧ (spL s).length ≤ 24 then (spL s, true) else ([], false)

theorem at_get (s : ByteArray) (i : Nat) (h : i < s.size) : s.data.toList[i]? = some s[i] := by rw [List.getElem?_eq_getElem (by simpa using h)]; rfl
theorem sp_space (s : ByteArray) (i : Nat) (h : i < s.size) (hc : s[i].toNat = 32) : sp s (i + 1) = ((sp s i).1 ++ cutF s (sp s i).2 i, i + 1) := by
  rw [sp, at_get s i h, if_pos (by show s[i] = 32; exact UInt8.toNat_inj.1 hc)]
theorem sp_other (s : ByteArray) (i : Nat) (h : i < s.size) (hc : s[i].toNat ≠ 32) : sp s (i + 1) = sp s i := by
  rw [sp, at_get s i h, if_neg (by show ¬ s[i] = 32; intro e; rw [e] at hc; exact hc rfl)]
theorem sp_last (s : ByteArray) : sp s (s.size + 1) = ((sp s s.size).1 ++ cutF s (sp s s.size).2 s.size, s.size + 1) := by
  rw [sp, if_pos (by simp)]
theorem sp_le (s : ByteArray) (i : Nat) : (sp s i).2 ≤ i ∧ (sp s i).1.length ≤ i := by
  induction i with
  | zero => simp [sp]
  | succ i ih =>
    rw [sp]
    split
    · refine ⟨Nat.le_refl _, ?_⟩
      simp only [List.length_append]
      have : (cutF s (sp s i).2 i).length ≤ 1 := by unfold cutF; split <;> simp
      omega
    · exact ⟨by omega, by omega⟩
theorem spR_yes (s : ByteArray) (h : s.size ≤ 600) (ha : s.data.toList.all okB = true) (hl : (spL s).length ≤ 24) : spR s = (spL s, true) := by unfold spR; rw [if_pos ⟨h, ha, hl⟩]

theorem owns_shape {B T n : Nat} {w : World} {v : Value} {xs : List Value} (h : w.ownsRow B T 1 v n xs) : ∃ a c, v = .slice a n c := by
  rcases h.2 with ⟨rfl, rfl⟩ | ⟨g, cap, cur, rfl, _⟩
  · exact ⟨_, _, rfl⟩
  · exact ⟨_, _, rfl⟩
theorem owns_below {B T n : Nat} {w w' : World} {v : Value} {xs : List Value} (h : w.ownsRow B T 1 v n xs) (hb : Below w.heap.size w w') : w'.ownsRow B T 1 v n xs :=
  h.kept (row := none) ⟨hb.os, hb.tape, hb.output, hb.size, fun j hj _ => hb.block j hj⟩ (by
    cases v.ownBlock with
    | none => exact .inl rfl
    | some x => exact .inr (by simp))
end Go.Proofs.YtakgjlpgcepnkaaGreat

/-! Rows of tokens in memory. Nothing of the program -/
namespace Go.Proofs.YtakgjlpgcepnkaaGreat
open Go.RowKit Go.Lib

theorem owns3_shape {B T n s : Nat} {w : World} {v : Value} {xs : List Value} (h : w.ownsRow B T s v n xs) : ∃ a c, v = .slice a n c := by
  rcases h.2 with ⟨rfl, rfl⟩ | ⟨g, cap, cur, rfl, _⟩
  · exact ⟨_, _, rfl⟩
  · exact ⟨_, _, rfl⟩
theorem owns3_below {B T n s : Nat} {w w' : World} {v : Value} {xs : List Value} (h : w.ownsRow B T s v n xs) (hb : Below w.heap.size w w') : w'.ownsRow B T s v n xs :=
  h.kept (row := none) ⟨hb.os, hb.tape, hb.output, hb.size, fun j hj _ => hb.block j hj⟩ (by
    cases v.ownBlock with
    | none => exact .inl rfl
    | some x => exact .inr (by simp))
theorem grown_of_below {w w' : World} (hb : Below w.heap.size w w') (row : Option Nat) : w.grownBy w' row := ⟨hb.os, hb.tape, hb.output, hb.size, fun j hj _ => hb.block j hj⟩

theorem three (R : List Value) (n : Nat) (h : R.length = (n + 1) * 3) : ∃ a b c R', R = a :: b :: c :: R' ∧ R'.length = n * 3 := by
  match R, h with
  | a :: b :: c :: R', h => exact ⟨a, b, c, R', rfl, by simp at h; omega⟩
  | [], h => simp at h
  | [_], h => simp at h; omega
  | [_, _], h => simp at h; omega

end Go.Proofs.YtakgjlpgcepnkaaGreat

/-! Plain facts on expressions. Nothing of the program -/
namespace Go.Proofs.YtakgjlpgcepnkaaGreat
open Go.RowKit Go.Lib

end Go.Proofs.YtakgjlpgcepnkaaGreat

/-! Plain facts on decimal numerals. Nothing of the program -/
namespace Go.Proofs.YtakgjlpgcepnkaaGreat
open Go.RowKit Go.Lib

/-- The digits that are still to be written: none of 0. -/
def restD (m : Nat) : List UInt8 := if m = 0 then [] else decDigits m
theorem figB_dec (n : Nat) (h : n < 10) : figB n = UInt8.ofNat (48 + n) := by unfold figB figN; rw [if_pos h]
theorem restD_step (m : Nat) (h : 0 < m) : restD m = restD (m / 10) ++ [figB (m % 10)] := by
  unfold restD
  rw [if_neg (by omega), figB_dec _ (by omega), decDigits]
  by_cases h1 : m < 10
  · rw [dif_pos h1, if_pos (by omega)]; simp; congr 1; omega
  · rw [dif_neg h1, if_neg (by omega)]
theorem restD_pos (m : Nat) (h : 0 < m) : restD m = decDigits m := by unfold restD; rw [if_neg (by omega)]
theorem restD_len (k : Nat) : ∀ m : Nat, m < 10 ^ k → (restD m).length ≤ k := by
  induction k with
  | zero => intro m h; have : m = 0 := by simpa using h
            subst this; simp [restD]
  | succ k ih =>
    intro m h
    by_cases h0 : 0 < m
    · rw [restD_step m h0]
      have := ih (m / 10) (by rw [Nat.pow_succ] at h; omega)
      simp; omega
    · have : m = 0 := by omega
      subst this; simp [restD]
theorem rest_size {m n : Nat} {t : ByteArray} (h : restD m ++ t.data.toList = restD n) (hn : n ≤ 9223372036854775808) : t.size ≤ 19 := by
  have h1 := restD_len 19 n (by omega)
  rw [← h, List.length_append, list_len] at h1
  omega
theorem rest_next {m n : Nat} {t : ByteArray} (h : restD m ++ t.data.toList = restD n) (h0 : 0 < m) : restD (m / 10) ++ ((⟨#[figB (m % 10)]⟩ : ByteArray) ++ t).data.toList = restD n := by
  rw [← h, restD_step m h0]
  simp [ByteArray.data_append]
theorem ret_str {a b : ByteArray} (h : a.data.toList = b.data.toList) : Ending.returned (.string a) = .returned (.string b) := by
  have : a = b := ByteArray.ext (Array.toList_inj.1 h)
  rw [this]
end Go.Proofs.YtakgjlpgcepnkaaGreat

/-! Plain facts on reading decimal numerals. Nothing of the program -/
namespace Go.Proofs.YtakgjlpgcepnkaaGreat
open Go.RowKit Go.Lib

end Go.Proofs.YtakgjlpgcepnkaaGreat

/-! Plain facts on the texts of tokens. Nothing of the program -/
namespace Go.Proofs.YtakgjlpgcepnkaaGreat
open Go.RowKit Go.Lib

end Go.Proofs.YtakgjlpgcepnkaaGreat

/-! Plain facts on reading tokens. Nothing of the program -/
namespace Go.Proofs.YtakgjlpgcepnkaaGreat
open Go.RowKit Go.Lib

end Go.Proofs.YtakgjlpgcepnkaaGreat

/-! Plain facts on the texts of expressions. Nothing of the program -/
namespace Go.Proofs.YtakgjlpgcepnkaaGreat
open Go.RowKit Go.Lib

end Go.Proofs.YtakgjlpgcepnkaaGreat

/-! Plain facts on reading expressions. Nothing of the program -/
namespace Go.Proofs.YtakgjlpgcepnkaaGreat
open Go.RowKit Go.Lib

end Go.Proofs.YtakgjlpgcepnkaaGreat

/-! Rows of ints in memory, and the operands' places. Nothing of the program -/
namespace Go.Proofs.YtakgjlpgcepnkaaGreat
open Go.RowKit Go.Lib

def intV (l : List Int) : List Value := l.map (Value.int .i64)
theorem intV_length (l : List Int) : (intV l).length = l.length := by simp [intV]
/-- What a call may read of a row of ints. -/
def ReadI (w : World) (a : Option Addr) (l : List Int) : Prop := ∀ j (h : j < l.length), ∃ g, a = some ⟨g, 0, none⟩ ∧ g < w.heap.size ∧ w.cell? ⟨g, j, none⟩ = some (.int .i64 l[j])
theorem readI_of {B T c : Nat} {w : World} {a : Option Addr} {l : List Int} (h : w.ownsRow B T 1 (.slice a l.length c) l.length (intV l)) : ReadI w a l := by
  intro j hj
  rcases h.2 with ⟨he, h0⟩ | ⟨g, cap, cur, he, hB, hg, _⟩
  · omega
  · have ha : a = some ⟨g, 0, none⟩ := by injection he
    subst ha
    have hlt : g < w.heap.size := by
      rcases Nat.lt_or_ge g w.heap.size with h | h
      · exact h
      · rw [Array.getElem?_eq_none h] at hg; cases hg
    refine ⟨g, rfl, hlt, ?_⟩
    rw [h.cellAt j (by omega)]
    simp [intV, hj]
theorem ReadI.below {w w' : World} {a : Option Addr} {l : List Int} (h : ReadI w a l) (hb : Below w.heap.size w w') : ReadI w' a l := by
  intro j hj
  obtain ⟨g, e, hg, c0⟩ := h j hj
  exact ⟨g, e, Nat.lt_of_lt_of_le hg hb.size, (hb.cell (p := ⟨g, _, none⟩) hg).trans c0⟩

/-- The marks from m on, n of them. -/
def mki (m n : Nat) : List Int := (List.range n).map fun j => ((m + j : Nat) : Int)
theorem mki_length (m n : Nat) : (mki m n).length = n := by simp [mki]
theorem mki_get (m n j : Nat) (h : j < (mki m n).length) : (mki m n)[j] = ((m + j : Nat) : Int) := by simp [mki]
def halfI (m k : Nat) (l : List Int) : List Int := mki m k ++ l.drop k
theorem halfI_length (m k : Nat) (l : List Int) (h : k ≤ l.length) : (halfI m k l).length = l.length := by simp [halfI, mki_length]; omega
theorem halfI_zero (m : Nat) (l : List Int) : halfI m 0 l = l := by simp [halfI, mki]
theorem halfI_all (m : Nat) (l : List Int) : halfI m l.length l = mki m l.length := by simp [halfI]
theorem halfI_set (m k : Nat) (l : List Int) (h : k < l.length) : (intV (halfI m k l)).set k (.int .i64 ((m + k : Nat) : Int)) = intV (halfI m (k + 1) l) := by
  unfold halfI
  have e : mki m (k + 1) = mki m k ++ [((m + k : Nat) : Int)] := by simp [mki, List.range_succ]
  rw [e, intV, intV, ← List.map_set, List.set_append_right _ _ (by rw [mki_length]; exact Nat.le_refl _), mki_length, Nat.sub_self, List.append_assoc]
  congr 2
  rw [List.drop_eq_getElem_cons h]
  rfl

end Go.Proofs.YtakgjlpgcepnkaaGreat

/-! Reading a list of strings. Nothing of the program -/
namespace Go.Proofs.YtakgjlpgcepnkaaGreat
open Go.RowKit Go.Lib

end Go.Proofs.YtakgjlpgcepnkaaGreat

/-! Fields joined by spaces have the same fields. Nothing of the program -/
namespace Go.Proofs.YtakgjlpgcepnkaaGreat
open Go.RowKit Go.Lib

def oneL (cur : List UInt8) : List (List UInt8) := if cur = [] then [] else [cur]
/-- The fields of bytes, cur being what stands of the first one. -/
def fl (cur : List UInt8) : List UInt8 → List (List UInt8)
  | [] => oneL cur
  | c :: r => if c = 32 then oneL cur ++ fl [] r else fl (cur ++ [c]) r
def bytesOf (l : List ByteArray) : List (List UInt8) := l.map fun f => f.data.toList

theorem ext_toList (s : ByteArray) (b i : Nat) : (s.extract b i).data.toList = (s.data.toList.drop b).take (i - b) := by rw [extract_data]
theorem ext_snoc (s : ByteArray) (b i : Nat) (h : b ≤ i) (hi : i < s.size) : (s.extract b (i + 1)).data.toList = (s.extract b i).data.toList ++ [s[i]] := by
  rw [ext_toList, ext_toList, show i + 1 - b = (i - b) + 1 by omega, List.take_succ_eq_append_getElem (by simp; omega)]
  congr 1
  simp only [List.cons.injEq, and_true]
  rw [List.getElem_drop]
  have e : b + (i - b) = i := by omega
  simp only [e]
  rfl
theorem ext_none (s : ByteArray) (b : Nat) : (s.extract b b).data.toList = [] := by rw [ext_toList]; simp
theorem cut_one (s : ByteArray) (b i : Nat) (h : b ≤ i) (hi : i ≤ s.size) : bytesOf (cutF s b i) = oneL (s.extract b i).data.toList := by
  unfold cutF oneL bytesOf
  have hl : ((s.extract b i).data.toList).length = i - b := by rw [ext_toList]; simp; omega
  by_cases hb : b < i
  · rw [if_pos hb, if_neg (by intro e; rw [e] at hl; simp at hl; omega)]; rfl
  · rw [if_neg hb, if_pos (List.length_eq_zero_iff.1 (by rw [hl]; omega))]; rfl
theorem sp_fl (s : ByteArray) : ∀ k, k ≤ s.size → bytesOf (sp s k).1 ++ fl (s.extract (sp s k).2 k).data.toList (s.data.toList.drop k) = fl [] s.data.toList := by
  intro k
  induction k with
  | zero => intro _; simp [sp, bytesOf, ext_none]
  | succ k ih =>
    intro hk
    have h0 := ih (by omega)
    have hlt : k < s.size := by omega
    have hle := (sp_le s k).1
    have hd : s.data.toList.drop k = s[k] :: s.data.toList.drop (k + 1) := by
      rw [List.drop_eq_getElem_cons (by simpa using hlt)]; rfl
    rw [hd, fl] at h0
    by_cases hc : s[k].toNat = 32
    · have hc' : s[k] = 32 := UInt8.toNat_inj.1 hc
      rw [if_pos hc'] at h0
      rw [sp_space s k hlt hc, ext_none]
      rw [← h0]
      simp only [bytesOf, List.map_append, List.append_assoc]
      congr 1
      congr 1
      exact cut_one s _ k hle (by omega)
    · have hc' : ¬ s[k] = 32 := fun e => hc (by rw [e]; rfl)
      rw [if_neg hc'] at h0
      rw [sp_other s k hlt hc, ext_snoc s _ k hle hlt]
      exact h0
theorem spL_fl (s : ByteArray) : bytesOf (spL s) = fl [] s.data.toList := by
  have h := sp_fl s s.size (Nat.le_refl _)
  rw [List.drop_of_length_le (by rw [list_len]; exact Nat.le_refl _)] at h
  unfold spL
  rw [sp_last, ← h]
  simp only [bytesOf, List.map_append]
  congr 1
  exact cut_one s _ s.size (sp_le s s.size).1 (Nat.le_refl _)

theorem fl_field (f : List UInt8) : ∀ (cur r : List UInt8), (∀ c ∈ f, c ≠ 32) → fl cur (f ++ 32 :: r) = oneL (cur ++ f) ++ fl [] r := by
  induction f with
  | nil => intro cur r _; simp [fl]
  | cons c f ih =>
    intro cur r h
    rw [List.cons_append, fl, if_neg (h c (by simp)), ih _ _ (fun x hx => h x (by simp [hx]))]
    simp
theorem fl_join (l : List (List UInt8)) (h : ∀ f ∈ l, f ≠ [] ∧ ∀ c ∈ f, c ≠ 32) : fl [] (l.map fun f => f ++ [32]).flatten = l := by
  induction l with
  | nil => rfl
  | cons f r ih =>
    have hf := h f (by simp)
    rw [List.map_cons, List.flatten_cons, List.append_assoc, List.singleton_append]
    rw [fl_field f [] _ hf.2, ih (fun g hg => h g (by simp [hg]))]
    simp [oneL, hf.1]
theorem fl_mem (L : List UInt8) : ∀ (cur : List UInt8) (f : List UInt8), (∀ c ∈ cur, c ≠ 32) → f ∈ fl cur L → f ≠ [] ∧ (∀ c ∈ f, c ≠ 32) ∧ (∀ c ∈ f, c ∈ cur ∨ c ∈ L) ∧ f.length ≤ cur.length + L.length := by
  induction L with
  | nil =>
    intro cur f hc hf
    rw [fl, oneL] at hf
    split at hf
    · cases hf
    · rename_i hne
      have : f = cur := by simpa using hf
      subst this
      exact ⟨hne, hc, fun c h => .inl h, by simp⟩
  | cons c r ih =>
    intro cur f hc hf
    rw [fl] at hf
    split at hf
    · rcases List.mem_append.1 hf with h | h
      · rw [oneL] at h
        split at h
        · cases h
        · rename_i hne
          have : f = cur := by simpa using h
          subst this
          exact ⟨hne, hc, fun c h => .inl h, by simp⟩
      · obtain ⟨h1, h2, h3, h4⟩ := ih [] f (by simp) h
        exact ⟨h1, h2, fun x hx => .inr ((h3 x hx).elim (fun h => by cases h) (fun h => by simp [h])), by simp at h4 ⊢; omega⟩
    · rename_i hne
      obtain ⟨h1, h2, h3, h4⟩ := ih (cur ++ [c]) f (by
        intro x hx
        rcases List.mem_append.1 hx with h | h
        · exact hc x h
        · have : x = c := by simpa using h
          subst this; exact hne) hf
      exact ⟨h1, h2, fun x hx => by
        rcases h3 x hx with h | h
        · rcases List.mem_append.1 h with h | h
          · exact .inl h
          · exact .inr (by have : x = c := by simpa using h
                           subst this; simp)
        · exact .inr (by simp [h]), by simp at h4 ⊢; omega⟩

/-- The fields, each with a space behind it. -/
def joinS (l : List ByteArray) : List UInt8 := ((bytesOf l).map fun f => f ++ [32]).flatten
theorem bytes_inj' {a b : List ByteArray} (h : bytesOf a = bytesOf b) : a = b := by
  induction a generalizing b with
  | nil => cases b with
    | nil => rfl
    | cons x y => simp [bytesOf] at h
  | cons x r ih => cases b with
    | nil => simp [bytesOf] at h
    | cons y q =>
      simp only [bytesOf, List.map_cons, List.cons.injEq] at h
      rw [bl_eq h.1, ih h.2]
theorem fields_of (s : ByteArray) (l : List ByteArray) (h : spR s = (l, true)) : s.size ≤ 600 ∧ s.data.toList.all okB = true ∧ spL s = l ∧ l.length ≤ 24 := by
  unfold spR at h
  split at h
  · rename_i hh
    injection h with h _
    exact ⟨hh.1, hh.2.1, h, by rw [← h]; exact hh.2.2⟩
  · injection h with _ h; cases h
theorem again (s t : ByteArray) (l : List ByteArray) (h : spR s = (l, true)) (ht : t.data.toList = joinS l) (hs : t.size ≤ 600) : spR t = (l, true) := by
  obtain ⟨h1, h2, h3, h4⟩ := fields_of s l h
  have hmem : ∀ f ∈ bytesOf l, f ≠ [] ∧ (∀ c ∈ f, c ≠ 32) ∧ (∀ c ∈ f, c ∈ s.data.toList) := by
    intro f hf
    have hm : f ∈ fl [] s.data.toList := by rw [← spL_fl, h3]; exact hf
    obtain ⟨a, b, c, _⟩ := fl_mem _ [] _ (by simp) hm
    exact ⟨a, b, fun x hx => (c x hx).elim (fun h => by cases h) id⟩
  have hfl : bytesOf (spL t) = bytesOf l := by
    rw [spL_fl, ht]
    exact fl_join _ (fun f hf => ⟨(hmem f hf).1, (hmem f hf).2.1⟩)
  have hl := bytes_inj' hfl
  have hok : t.data.toList.all okB = true := by
    rw [ht, List.all_eq_true]
    intro c hc
    unfold joinS at hc
    obtain ⟨g, hg, hcg⟩ := List.mem_flatten.1 hc
    obtain ⟨f, hf, rfl⟩ := List.mem_map.1 hg
    rcases List.mem_append.1 hcg with h | h
    · exact List.all_eq_true.1 h2 c ((hmem f hf).2.2 c h)
    · have : c = 32 := by simpa using h
      subst this; rfl
  rw [spR_yes t hs hok (by rw [hl]; exact h4), hl]
end Go.Proofs.YtakgjlpgcepnkaaGreat

/-! Arguments that are rows of tokens, or rows of strings, opened to cells. Nothing of the program -/
namespace Go.Proofs.YtakgjlpgcepnkaaGreat
open Go.RowKit Go.Lib Go.ChangeShapes Go.WideShapes Go.Deep

theorem addr_block (a : Addr) (n : Nat) : (a.add n).block = a.block := by unfold Addr.add; split <;> rfl
theorem add_in (a : Addr) (n i : Nat) : a.add (n + (i + 1)) = ⟨(a.add n).block, (a.add n).off + (i + 1), none⟩ := by
  rw [← Go.Deep.add_add]
  rw [Addr.add, if_neg (by omega)]
theorem list_of {α : Type} (n : Nat) (Q : Nat → α → Prop) (h : ∀ j, j < n → ∃ t, Q j t) : ∃ l : List α, l.length = n ∧ ∀ j (hj : j < l.length), Q j l[j] := by
  induction n with
  | zero => exact ⟨[], rfl, fun j hj => absurd hj (by simp)⟩
  | succ n ih =>
    obtain ⟨l, hl, hq⟩ := ih (fun j hj => h j (by omega))
    obtain ⟨t, ht⟩ := h n (by omega)
    refine ⟨l ++ [t], by simp [hl], fun j hj => ?_⟩
    by_cases hjn : j < l.length
    · rw [List.getElem_append_left hjn]; exact hq j hjn
    · have : j = n := by simp at hj; omega
      subst this
      simpa [hl] using ht

section
variable {H : Type} {enc : TypeId × Value → H} {P : Program} {w : World} {base : Nat} {spare : Nat → Bool} {held : Bool}
/-- (As the kit's page on structs has it.) -/
theorem open_fields {t e : TypeId} {fs : Array Field} {fuel : Nat} {cs : List Value} {x : DataW H × List MemPlace} (ht : P.underlying t = some (.slice e)) (he : P.underlying e = some (.struct fs))
    (hone : oneCellFields P fs = true) (hC : P.cellsOf e = fs.size) (h : DataW.trod enc P w base spare held fuel t cs = some x) :
    (cs = [.slice none 0 0]) ∨
    ∃ (a : Addr) (len cap m : Nat), cs = [.slice (some a) len cap] ∧ len ≤ cap ∧ cap ≤ maxLen ∧ m = (if spare a.block then cap else len) ∧
      ∀ i, i < m → ∃ (n : Nat), ∀ (j : Nat) (f : Field), fs[j]? = some f → ∃ (v : Value) (y : DataW H × List MemPlace), w.cell? (a.add (i * fs.size + j)) = some v ∧ DataW.trod enc P w base spare held n f.type [v] = some y := by
  rcases open_slice ht h with h0 | ⟨a, len, cap, m, n, D, Pl, hcs, hb, hl, hm, hmm, hx, hi⟩
  · exact .inl h0.1
  · refine .inr ⟨a, len, cap, m, hcs, hl, hm, hmm, fun i him => ?_⟩
    obtain ⟨cs', hc, ht'⟩ := hi i him
    rw [hC] at hc
    obtain ⟨ys, n', hn', hy, hlen, hyl, hf⟩ := DataW.trod_struct he ht'
    obtain ⟨_, hcl, hat⟩ := World.cells?_some hc
    refine ⟨n', fun j f hj => ?_⟩
    obtain ⟨ho, hk⟩ := hone_of hone j f hj
    have hjl : j < fs.size := (Array.getElem?_eq_some_iff.1 hj).1
    have hcell := hat j hjl
    have hv : cs'[j]? = some (cs'[j]'(by omega)) := List.getElem?_eq_getElem (by omega)
    have h1 := hf j f hj
    rw [ho, hk] at h1
    have hone' : (cs'.drop j).take 1 = [cs'[j]'(by omega)] := by
      rw [List.drop_eq_getElem_cons (by omega)]
      rfl
    rw [hone'] at h1
    have hys : ys[j]? = some (ys[j]'(by omega)) := List.getElem?_eq_getElem (by omega)
    refine ⟨_, _, ?_, h1.trans hys⟩
    rw [← Go.Deep.add_add, hcell, hv]

end
end Go.Proofs.YtakgjlpgcepnkaaGreat

/-! Instructions, plain: their widths, which are valid, their bytes, and what is read from bytes. Nothing of the program -/
namespace Go.Proofs.YtakgjlpgcepnkaaGreat
open Go.RowKit Go.Lib

structure OpL where
  code : Int
  arg : Int
/-- How many bytes an argument has; whether it has a sign. -/
def widN (c : Int) : Nat := if c = 0 then 4 else if c = 1 ∨ c = 2 ∨ c = 3 ∨ c = 4 ∨ c = 10 ∨ c = 11 ∨ c = 16 then 2 else if c = 12 ∨ c = 13 ∨ c = 14 ∨ c = 15 then 1 else 0
def sgnB (c : Int) : Bool := decide (0 ≤ c) && decide (c ≤ 4) || decide (c = 10) || decide (c = 11)
def codeB (c : Int) : Bool := decide (0 ≤ c) && decide (c ≤ 17)
def sizZ (c : Int) : Int := if codeB c = true then 1 + (widN c : Int) else 0
/-- The smallest and the greatest argument. -/
def loZ (c : Int) : Int := if sgnB c = true then -((256 ^ widN c : Nat) : Int) / 2 else 0
def hiZ (c : Int) : Int := if sgnB c = true then ((256 ^ widN c : Nat) : Int) / 2 - 1 else ((256 ^ widN c : Nat) : Int) - 1
/-- The number that bytes stand for, the lowest first. -/
def valB : List UInt8 → Nat
  | [] => 0
  | b :: r => b.toNat + 256 * valB r
/-- With the sign. -/
def sgnV (c : Int) (v : Nat) : Int := if sgnB c = true ∧ 256 ^ widN c ≤ 2 * v then (v : Int) - ((256 ^ widN c : Nat) : Int) else (v : Int)
/-- The instruction at the beginning of bytes, and its size. -/
def dec1 : List UInt8 → Option (OpL × Nat)
  | [] => none
  | b :: r => if (b.toNat : Int) ≤ 17 ∧ widN (b.toNat : Int) ≤ r.length then some (⟨(b.toNat : Int), sgnV (b.toNat : Int) (valB (r.take (widN (b.toNat : Int))))⟩, 1 + widN (b.toNat : Int)) else none
def decZ (l : List UInt8) (a : Int) : Option (OpL × Nat) := if a < 0 then none else dec1 (l.drop a.toNat)
theorem widN_le (c : Int) : widN c ≤ 4 := by unfold widN; split <;> (try split) <;> (try split) <;> omega
theorem sgn_wid (c : Int) (h : sgnB c = true) : widN c = 2 ∨ widN c = 4 := by
  unfold sgnB at h
  simp only [Bool.or_eq_true, Bool.and_eq_true, decide_eq_true_eq] at h
  unfold widN
  split
  · exact .inr rfl
  · rw [if_pos (by omega)]; exact .inl rfl
theorem valB_take (l : List UInt8) : ∀ (k : Nat) (h : k < l.length), valB (l.take (k + 1)) = valB (l.take k) + l[k].toNat * 256 ^ k := by
  induction l with
  | nil => intro k h; simp at h
  | cons b r ih =>
    intro k h
    cases k with
    | zero => rw [List.take_succ_cons, List.take_zero, List.take_zero, valB]; simp [valB]
    | succ k =>
      have h' : k < r.length := by simpa using h
      rw [List.take_succ_cons, List.take_succ_cons, valB, valB, ih k h', List.getElem_cons_succ, Nat.pow_succ]
      rw [Nat.mul_add]
      have : 256 * (r[k].toNat * 256 ^ k) = r[k].toNat * (256 ^ k * 256) := by rw [Nat.mul_comm 256, Nat.mul_assoc]
      omega
theorem valB_lt (l : List UInt8) : valB l < 256 ^ l.length := by
  induction l with
  | nil => simp [valB]
  | cons b r ih =>
    rw [valB, List.length_cons, Nat.pow_succ]
    have := b.toNat_lt
    omega
/-- Instructions one behind the other, with a bound on their number. -/
def disF : Nat → List UInt8 → Option (List OpL)
  | _, [] => some []
  | 0, _ :: _ => none
  | n + 1, b :: r => match dec1 (b :: r) with
    | none => none
    | some (x, k) => (disF n ((b :: r).drop k)).map (x :: ·)
def disZ (l : List UInt8) : Option (List OpL) := disF l.length l
theorem dec1_size (l : List UInt8) (x : OpL) (k : Nat) (h : dec1 l = some (x, k)) : 1 ≤ k ∧ k ≤ l.length := by
  cases l with
  | nil => cases h
  | cons b r =>
    rw [dec1] at h
    split at h
    · rename_i hc
      injection h with h
      injection h with _ h
      subst h
      rw [List.length_cons]
      omega
    · cases h
theorem disF_more : ∀ (n m : Nat) (l : List UInt8), l.length ≤ n → l.length ≤ m → disF n l = disF m l := by
  intro n
  induction n with
  | zero =>
    intro m l h _
    have : l = [] := List.length_eq_zero_iff.1 (by omega)
    subst this
    cases m <;> rfl
  | succ n ih =>
    intro m l h1 h2
    cases l with
    | nil => cases m <;> rfl
    | cons b r =>
      cases m with
      | zero => simp at h2
      | succ m =>
        rw [disF, disF]
        cases hd : dec1 (b :: r) with
        | none => rfl
        | some y =>
          obtain ⟨x, k⟩ := y
          have hk := dec1_size _ _ _ hd
          simp only
          rw [ih m ((b :: r).drop k) (by rw [List.length_drop]; omega) (by rw [List.length_drop]; omega)]
theorem disZ_nil : disZ [] = some [] := rfl
theorem disZ_next (l : List UInt8) (x : OpL) (k : Nat) (h : dec1 l = some (x, k)) : disZ l = (disZ (l.drop k)).map (x :: ·) := by
  have hk := dec1_size l x k h
  cases l with
  | nil => cases h
  | cons b r =>
    unfold disZ
    rw [List.length_cons, disF, h]
    simp only
    rw [disF_more r.length ((b :: r).drop k).length _ (by rw [List.length_drop, List.length_cons]; omega) (Nat.le_refl _)]
theorem disZ_bad (l : List UInt8) (hl : l ≠ []) (h : dec1 l = none) : disZ l = none := by
  cases l with
  | nil => exact absurd rfl hl
  | cons b r => unfold disZ; rw [List.length_cons, disF, h]
end Go.Proofs.YtakgjlpgcepnkaaGreat

/-! Plain facts on numbers of 32 bits. Nothing of the program -/
namespace Go.Proofs.YtakgjlpgcepnkaaGreat
open Go.RowKit

/-- The number in -2^31 .. 2^31 - 1 that differs from x by a multiple of 2^32. -/
def W32 (x : Int) : Int := (x + 2147483648) % 4294967296 - 2147483648
theorem W32_lo (x : Int) : -2147483648 ≤ W32 x := by unfold W32; omega
theorem W32_hi (x : Int) : W32 x ≤ 2147483647 := by unfold W32; omega
theorem W32_wrap (x : Int) : wrap32 x = W32 x := by
  unfold W32 wrap32
  omega
theorem W32_masked (x : Int) : (if 2147483647 < x % 4294967296 then x % 4294967296 - 4294967296 else x % 4294967296) = W32 x := by unfold W32; split <;> omega
theorem W32_big (x : Int) (h : 2147483647 < x % 4294967296) : x % 4294967296 - 4294967296 = W32 x := by unfold W32; omega
theorem W32_small (x : Int) (h : ¬ 2147483647 < x % 4294967296) : x % 4294967296 = W32 x := by unfold W32; omega
theorem i64_and32 (n : Int) : bits .and .i64 n 4294967295 = n % 4294967296 := by
  have h127 : (BitVec.ofInt 64 4294967295).toNat = 2 ^ 32 - 1 := by decide
  have key : (BitVec.ofInt 64 n &&& BitVec.ofInt 64 4294967295).toNat = (n % ((2 ^ 64 : Nat) : Int)).toNat % 2 ^ 32 := by
    rw [BitVec.toNat_and, BitVec.toNat_ofInt, h127, Nat.and_two_pow_sub_one_eq_mod]
  show IntKind.i64.wrap ((BitVec.ofInt 64 n &&& BitVec.ofInt 64 4294967295).toNat : Nat) = n % 4294967296
  rw [key, IntKind.wrap_i64]
  omega
theorem mod32 (x : Int) : 0 ≤ x % 4294967296 ∧ x % 4294967296 ≤ 4294967295 := ⟨by omega, by omega⟩

/-- The operators, and 0 for any other kind. -/
def appZ (k a b : Int) : Int :=
  if k = 2 then W32 (W32 a + W32 b) else if k = 3 then W32 (W32 a - W32 b) else if k = 4 then W32 (W32 a * W32 b)
  else if k = 5 then (if W32 a < W32 b then 1 else 0) else if k = 6 then (if W32 a = W32 b then 1 else 0) else 0
theorem appZ_add (a b : Int) : appZ 2 a b = W32 (W32 a + W32 b) := rfl
theorem appZ_sub (a b : Int) : appZ 3 a b = W32 (W32 a - W32 b) := rfl
theorem appZ_mul (a b : Int) : appZ 4 a b = W32 (W32 a * W32 b) := rfl
theorem appZ_lt1 (a b : Int) (h : W32 a < W32 b) : appZ 5 a b = 1 := by show (if W32 a < W32 b then _ else _) = _; rw [if_pos h]
theorem appZ_lt0 (a b : Int) (h : ¬ W32 a < W32 b) : appZ 5 a b = 0 := by show (if W32 a < W32 b then _ else _) = _; rw [if_neg h]
theorem appZ_eq1 (a b : Int) (h : W32 a = W32 b) : appZ 6 a b = 1 := by show (if W32 a = W32 b then _ else _) = _; rw [if_pos h]
theorem appZ_eq0 (a b : Int) (h : ¬ W32 a = W32 b) : appZ 6 a b = 0 := by show (if W32 a = W32 b then _ else _) = _; rw [if_neg h]
theorem appZ_other (k a b : Int) (h2 : k ≠ 2) (h3 : k ≠ 3) (h4 : k ≠ 4) (h5 : k ≠ 5) (h6 : k ≠ 6) : appZ k a b = 0 := by
  unfold appZ; rw [if_neg h2, if_neg h3, if_neg h4, if_neg h5, if_neg h6]
theorem mul_bd (a b : Int) : -4611686018427387904 ≤ W32 a * W32 b ∧ W32 a * W32 b ≤ 4611686018427387904 := by
  have h1 := W32_lo a; have h2 := W32_hi a; have h3 := W32_lo b; have h4 := W32_hi b
  have e : (W32 a * W32 b).natAbs ≤ 2147483648 * 2147483648 := by
    rw [Int.natAbs_mul]
    exact Nat.mul_le_mul (by omega) (by omega)
  omega
end Go.Proofs.YtakgjlpgcepnkaaGreat
