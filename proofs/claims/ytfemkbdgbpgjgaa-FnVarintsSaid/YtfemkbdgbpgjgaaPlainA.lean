/- Plain facts: Plain facts on bytes, hexadecimal figures and owned rows of bytes; Plain facts on names and tokens; Plain facts on the fields of a line; Rows of tokens in memory; Plain facts on expressions; Plain facts on decimal numerals; Plain facts on reading decimal numerals; Plain facts on the texts of tokens; Plain facts on reading tokens; Plain facts on the texts of expressions; Plain facts on reading expressions; Rows of ints in memory, and the operands' places; Reading a list of strings; Fields joined by spaces have the same fields; Arguments that are rows of tokens, or rows of strings, opened to cells. Nothing of the program. -/
import Derived.WalkKit
import Derived.IntWalk
import Derived.Lib.BufferRead
import Derived.Laws.IdiomStrings
import Derived.Maps.AppendAt
import Derived.Below
import Derived.Deep.Draws
import Derived.Lib.ItoaNum
import Derived.Lib.Atoi
import Derived.Lib.AtoiErr
import Derived.Lib.AtoiAll
import Derived.Lib.AtoiTie
import Derived.Lib.IndexLaws
import Derived.Lib.Bytealg
import Derived.Lib.Join
import Derived.Deep.Slices
import Derived.Deep.Fields
import Derived.ChangeSame
import Derived.SliceStrings
import Derived.Lib.SmallJoins
/-! Plain facts on bytes, hexadecimal figures and owned rows of bytes. Nothing of the program -/
namespace Go.Proofs.Ytfemkbdgbpgjgaa
open Go.RowKit Go.Lib

/-- The figure of a number below 16. -/
def figN (n : Nat) : Nat := if n < 10 then 48 + n else 87 + n
def figB (n : Nat) : UInt8 := UInt8.ofNat (figN n)
/-- The text of bytes, two figures each. -/
def hexL : List UInt8 → List UInt8
  | [] => []
  | c :: r => figB (c.toNat / 16) :: figB (c.toNat % 16) :: hexL r

theorem hexL_append (a b : List UInt8) : hexL (a ++ b) = hexL a ++ hexL b := by
  induction a with
  | nil => rfl
  | cons c r ih => simp [hexL, ih]
theorem hexL_length (a : List UInt8) : (hexL a).length = 2 * a.length := by
  induction a with
  | nil => rfl
  | cons c r ih => simp [hexL, ih]; omega
theorem figN_lt (n : Nat) (h : n < 16) : figN n < 256 := by unfold figN; split <;> omega
theorem figB_toNat (n : Nat) (h : n < 16) : (figB n).toNat = figN n := by
  unfold figB; have := figN_lt n h; simp [UInt8.toNat_ofNat']; omega

theorem take_snoc (s : ByteArray) (k : Nat) (h : k < s.size) : s.data.toList.take (k + 1) = s.data.toList.take k ++ [s[k]] := by
  rw [List.take_succ_eq_append_getElem (by simpa using h)]; rfl
theorem take_all (s : ByteArray) : s.data.toList.take s.size = s.data.toList := List.take_of_length_le (by simp)
theorem list_len (s : ByteArray) : s.data.toList.length = s.size := by simp
theorem byteCells_append (a b : List UInt8) : byteCells (a ++ b) = byteCells a ++ byteCells b := by simp [byteCells]
theorem byteCells_length (a : List UInt8) : (byteCells a).length = a.length := by simp [byteCells]

theorem byteCells_one (l : List UInt8) : ∀ u ∈ byteCells l, u.oneCell' = true := by intro u hu; simp only [byteCells, List.mem_map] at hu; obtain ⟨b, _, rfl⟩ := hu; rfl

/-- An owned row of bytes, turned into a string. -/
theorem conv_own {P : Program} (w : World) (base src dst e : Nat) (v : Value) (l : List UInt8) (hs : P.underlying src = some (.slice e)) (he : P.underlying e = some (.int .u8)) (hd : P.underlying dst = some .string)
    (h : w.ownsRow base e 1 v l.length (byteCells l)) : (convert src dst v).run P w = .ok (.string ⟨l.toArray⟩) w := by
  obtain ⟨_, h | ⟨g, cap, cur, rfl, _, hg, _, _, _, htk⟩⟩ := h
  · obtain ⟨rfl, h0⟩ := h
    have : l = [] := List.length_eq_zero_iff.1 h0
    subst this
    exact run_convert_nil_bytes w src dst e 0 hs he hd
  · exact run_convert_bytes_back w src dst e _ cap l hs he hd (bytes_of_row hg (by simpa using htk))

theorem byte_wrap (n : Nat) (h : n < 256) : IntKind.i64.wrap (n : Int) = (n : Int) := IntWalk.i64_in _ (by omega)
theorem byte_div (n : Nat) (h : n < 256) : IntKind.i64.wrap ((n : Int) / 16) = (n : Int) / 16 := IntWalk.i64_in _ (by omega)
theorem byte_mod (n : Nat) (h : n < 256) : IntKind.i64.wrap ((n : Int) % 16) = (n : Int) % 16 := IntWalk.i64_in _ (by omega)

/-- What lay below stays, behind a new block and an append to an owned row. -/
theorem below_app {B e n : Nat} {w0 wr w1 : World} {X : Obj} {v : Value} {xs : List Value} (hown : wr.ownsRow B e 1 v n xs) (hbel : Below B w0 wr) (hB : B ≤ wr.heap.size)
    (hg : (wr.alloc X).drew.grownBy w1 v.ownBlock) : Below B w0 w1 :=
  ((hbel.alloc hB X).drew).grown hg (by simp; omega) (fun k hk => (hown.lt k hk).1)
theorem below_app' {B e n : Nat} {w0 wr w1 : World} {X : Obj} {v : Value} {xs : List Value} (hown : wr.ownsRow B e 1 v n xs) (hbel : Below B w0 wr) (hB : B ≤ wr.heap.size)
    (hg : (wr.alloc X).grownBy w1 v.ownBlock) : Below B w0 w1 :=
  (hbel.alloc hB X).grown hg (by simp; omega) (fun k hk => (hown.lt k hk).1)
/-- The row's text, spelled as the next round asks it. -/
theorem owns_cast {B e m : Nat} {w : World} {v : Value} {xs : List Value} {l : List UInt8} (h : w.ownsRow B e 1 v m xs) (hl : byteCells l = xs) : w.ownsRow B e 1 v l.length (byteCells l) := by
  have hm : m = l.length := by have := h.1; rw [← hl, byteCells_length] at this; omega
  rw [← hm, hl]; exact h

/-- The figures, looked up. -/
theorem figs_at : ∀ n : Fin 16, (#[48, 49, 50, 51, 52, 53, 54, 55, 56, 57, 97, 98, 99, 100, 101, 102] : Array UInt8)[n.val]? = some (figB n.val) := by decide +kernel
theorem run_fig {P : Program} (w : World) (t : TypeId) (k : IntKind) (x : Int) (n : Nat) (ht : P.underlying t = some .string) (hx : x = n) (h : n < 16) :
    (Instr.index t (.string ⟨#[48, 49, 50, 51, 52, 53, 54, 55, 56, 57, 97, 98, 99, 100, 101, 102]⟩) (.int k x)).run P w = .ok (.int .u8 (figB n).toNat) w := by
  subst hx
  have hs : (⟨#[48, 49, 50, 51, 52, 53, 54, 55, 56, 57, 97, 98, 99, 100, 101, 102]⟩ : ByteArray).size = 16 := rfl
  have hi : 0 ≤ (n : Int) ∧ (n : Int) < ((⟨#[48, 49, 50, 51, 52, 53, 54, 55, 56, 57, 97, 98, 99, 100, 101, 102]⟩ : ByteArray).size : Int) := by rw [hs]; omega
  rw [run_index_string w t _ k n ht, dif_pos hi]
  have hf := figs_at ⟨n, h⟩
  obtain ⟨_, he⟩ := Array.getElem?_eq_some_iff.1 hf
  congr 3
  rw [← he]
  rfl

theorem bl_eq {a b : ByteArray} (h : a.data.toList = b.data.toList) : a = b := ByteArray.ext (Array.toList_inj.1 h)
theorem bl_ne {a b : ByteArray} (h : a.data.toList ≠ b.data.toList) : (a.toList == b.toList) = false := by
  rw [ByteArray.toList_eq, ByteArray.toList_eq]
  simpa using h

theorem ret_int {k : IntKind} {a b : Int} (h : a = b) : Ending.returned (.int k a) = .returned (.int k b) := by rw [h]
end Go.Proofs.Ytfemkbdgbpgjgaa

/-! Plain facts on names and tokens. Nothing of the program -/
namespace Go.Proofs.Ytfemkbdgbpgjgaa
open Go.RowKit Go.Lib

def lowB (c : UInt8) : Bool := decide (97 ≤ c.toNat) && decide (c.toNat ≤ 122)
/-- 1 to 8 lower-case letters. -/
def nameB (s : ByteArray) : Bool := decide (1 ≤ s.size) && (decide (s.size ≤ 8) && s.data.toList.all lowB)

theorem lowB_iff (c : UInt8) : lowB c = true ↔ 97 ≤ c.toNat ∧ c.toNat ≤ 122 := by simp [lowB]
theorem low_next (s : ByteArray) (k : Nat) (h : k < s.size) (ha : (s.data.toList.take k).all lowB = true) (h1 : 97 ≤ s[k].toNat) (h2 : s[k].toNat ≤ 122) : (s.data.toList.take (k + 1)).all lowB = true := by
  rw [take_snoc s k h, List.all_append, ha]
  simp [lowB, h1, h2]
theorem nameB_short (s : ByteArray) (h : s.size = 0) : nameB s = false := by simp [nameB, h]
theorem nameB_long (s : ByteArray) (h : 8 < s.size) : nameB s = false := by unfold nameB; rw [decide_eq_false (by omega : ¬ s.size ≤ 8)]; simp
theorem nameB_bad (s : ByteArray) (k : Nat) (h : k < s.size) (hb : s[k].toNat < 97 ∨ 122 < s[k].toNat) : nameB s = false := by
  have : s.data.toList.all lowB = false := by
    rw [List.all_eq_false]
    refine ⟨s[k], ?_, ?_⟩
    · have e : s.data.toList[k]'(by simpa using h) = s[k] := rfl
      exact e ▸ List.getElem_mem _
    · intro e; have := (lowB_iff _).1 e; omega
  simp [nameB, this]
theorem nameB_good (s : ByteArray) (h1 : 1 ≤ s.size) (h2 : s.size ≤ 8) (ha : (s.data.toList.take s.size).all lowB = true) : nameB s = true := by
  rw [take_all] at ha
  simp only [nameB, ha, decide_eq_true h1, decide_eq_true h2, Bool.and_true]
theorem nameB_all (s : ByteArray) (ha : (s.data.toList.take s.size).all lowB = true) : nameB s = (decide (1 ≤ s.size) && decide (s.size ≤ 8)) := by
  rw [take_all] at ha
  simp only [nameB, ha, Bool.and_true]
theorem nameB_size (s : ByteArray) (h : nameB s = true) : 1 ≤ s.size ∧ s.size ≤ 8 ∧ s.data.toList.all lowB = true := by
  simpa [nameB] using h

/-- A token: kind, number, name. -/
structure TokL where
  kind : Int
  num : Int
  name : ByteArray
def tokV (t : TokL) : List Value := [.int .i64 t.kind, .int .i64 t.num, .string t.name]
def tokA (t : TokL) : Value := .agg #[.int .i64 t.kind, .int .i64 t.num, .string t.name]
def noName (s : ByteArray) : Bool := decide (s.size = 0)
def tokB (t : TokL) : Bool :=
  if t.kind = 0 then decide (0 ≤ t.num) && (decide (t.num ≤ 999) && noName t.name)
  else if t.kind = 1 then decide (t.num = 0) && nameB t.name
  else if t.kind = 7 then decide (0 ≤ t.num) && (decide (t.num ≤ 4) && nameB t.name)
  else decide (2 ≤ t.kind) && (decide (t.kind ≤ 6) && (decide (t.num = 0) && noName t.name))
/-- The number of operands; -1 if it is no token. -/
def arZ (t : TokL) : Int := if tokB t = true then (if t.kind = 0 ∨ t.kind = 1 then 0 else if t.kind = 7 then t.num else 2) else -1
theorem tokB_0 (n : Int) (s : ByteArray) : tokB ⟨0, n, s⟩ = (decide (0 ≤ n) && (decide (n ≤ 999) && noName s)) := rfl
theorem tokB_1 (n : Int) (s : ByteArray) : tokB ⟨1, n, s⟩ = (decide (n = 0) && nameB s) := rfl
theorem tokB_7 (n : Int) (s : ByteArray) : tokB ⟨7, n, s⟩ = (decide (0 ≤ n) && (decide (n ≤ 4) && nameB s)) := rfl
theorem tokB_op (k n : Int) (s : ByteArray) (h0 : k ≠ 0) (h1 : k ≠ 1) (h7 : k ≠ 7) : tokB ⟨k, n, s⟩ = (decide (2 ≤ k) && (decide (k ≤ 6) && (decide (n = 0) && noName s))) := by
  unfold tokB; rw [if_neg h0, if_neg h1, if_neg h7]
theorem tokB_out (k n : Int) (s : ByteArray) (h : k < 0 ∨ 7 < k) : tokB ⟨k, n, s⟩ = false := by
  rw [tokB_op k n s (by omega) (by omega) (by omega)]
  rcases h with h | h
  · rw [decide_eq_false (by omega : ¬ 2 ≤ k)]; rfl
  · rw [decide_eq_false (by omega : ¬ k ≤ 6)]; simp
theorem arZ_bad (t : TokL) (h : tokB t = false) : arZ t = -1 := by unfold arZ; rw [h]; rfl
theorem arZ_0 (n : Int) (s : ByteArray) (h : tokB ⟨0, n, s⟩ = true) : arZ ⟨0, n, s⟩ = 0 := by unfold arZ; rw [h]; rfl
theorem arZ_1 (n : Int) (s : ByteArray) (h : tokB ⟨1, n, s⟩ = true) : arZ ⟨1, n, s⟩ = 0 := by unfold arZ; rw [h]; rfl
theorem arZ_7 (n : Int) (s : ByteArray) (h : tokB ⟨7, n, s⟩ = true) : arZ ⟨7, n, s⟩ = n := by unfold arZ; rw [h]; rfl
theorem arZ_op (k n : Int) (s : ByteArray) (h : tokB ⟨k, n, s⟩ = true) (h0 : k ≠ 0) (h1 : k ≠ 1) (h7 : k ≠ 7) : arZ ⟨k, n, s⟩ = 2 := by
  unfold arZ; rw [if_pos h, if_neg (by rintro (e | e); exact h0 e; exact h1 e), if_neg h7]
theorem arZ_bd (t : TokL) : -1 ≤ arZ t ∧ arZ t ≤ 4 := by
  obtain ⟨k, n, s⟩ := t
  cases h : tokB ⟨k, n, s⟩
  · rw [arZ_bad _ h]; omega
  · by_cases h0 : k = 0
    · subst h0; rw [arZ_0 _ _ h]; omega
    by_cases h1 : k = 1
    · subst h1; rw [arZ_1 _ _ h]; omega
    by_cases h7 : k = 7
    · subst h7; rw [arZ_7 _ _ h]; rw [tokB_7] at h; simp at h; omega
    · rw [arZ_op _ _ _ h h0 h1 h7]; omega
theorem arZ_pos (t : TokL) (h : tokB t = true) : 0 ≤ arZ t := by
  obtain ⟨k, n, s⟩ := t
  by_cases h0 : k = 0
  · subst h0; rw [arZ_0 _ _ h]; omega
  by_cases h1 : k = 1
  · subst h1; rw [arZ_1 _ _ h]; omega
  by_cases h7 : k = 7
  · subst h7; rw [arZ_7 _ _ h]; rw [tokB_7] at h; simp at h; omega
  · rw [arZ_op _ _ _ h h0 h1 h7]; omega
theorem noName_of (s : ByteArray) (h : s.size = 0) : noName s = true := by simp [noName, h]
theorem noName_not (s : ByteArray) (h : s.size ≠ 0) : noName s = false := by simp [noName, h]
/-- The walk's two spellings of the test against the empty string. -/
theorem empty_yes (s : ByteArray) (h : s.size = 0) : s = ⟨#[]⟩ := bl_eq (List.length_eq_zero_iff.1 (by rw [list_len]; exact h))
theorem empty_no (s : ByteArray) (h : s.size ≠ 0) : s.toList.isEmpty = false := by
  rw [ByteArray.toList_eq]
  cases hc : s.data.toList with
  | nil => exact absurd (by rw [← list_len, hc]; rfl) h
  | cons a b => rfl
theorem ret_b {a b : Bool} (h : a = b) : Ending.returned (.bool a) = .returned (.bool b) := by rw [h]
end Go.Proofs.Ytfemkbdgbpgjgaa

/-! Plain facts on the fields of a line. Nothing of the program -/
namespace Go.Proofs.Ytfemkbdgbpgjgaa
open Go.RowKit Go.Lib

def okB (c : UInt8) : Bool := decide (32 ≤ c.toNat) && decide (c.toNat ≤ 126)
/-- The run from b to i, if it is not empty. -/
def cutF (s : ByteArray) (b i : Nat) : List ByteArray := if b < i then [s.extract b i] else []
/-- The fields that end before byte i, and where the next one begins; behind the last byte stands a space. -/
def sp (s : ByteArray) : Nat → List ByteArray × Nat
  | 0 => ([], 0)
  | i + 1 => if (s.data.toList[i]?).getD 32 = 32 then ((sp s i).1 ++ cutF s (sp s i).2 i, i + 1) else sp s i
def spL (s : ByteArray) : List ByteArray := (sp s (s.size + 1)).1
def spR (s : ByteArray) : List ByteArray × Bool := if s.size ≤ 600 ∧ s.data.toList.all okB = true ∧ (spL s).length ≤ 24 then (spL s, true) else ([], false)

theorem at_get (s : ByteArray) (i : Nat) (h : i < s.size) : s.data.toList[i]? = some s[i] := by rw [List.getElem?_eq_getElem (by simpa using h)]; rfl
theorem sp_space (s : ByteArray) (i : Nat) (h : i < s.size) (hc : s[i].toNat = 32) : sp s (i + 1) = ((sp s i).1 ++ cutF s (sp s i).2 i, i + 1) := by
  rw [sp, at_get s i h, if_pos (by show s[i] = 32; exact UInt8.toNat_inj.1 hc)]
theorem sp_other (s : ByteArray) (i : Nat) (h : i < s.size) (hc : s[i].toNat ≠ 32) : sp s (i + 1) = sp s i := by
  rw [sp, at_get s i h, if_neg (by show ¬ s[i] = 32; intro e; rw [e] at hc; exact hc rfl)]
theorem sp_last (s : ByteArray) : sp s (s.size + 1) = ((sp s s.size).1 ++ cutF s (sp s s.size).2 s.size, s.size + 1) := by
  rw [sp, if_pos (by simp)]
theorem sp_le (s : ByteArray) (i : Nat) : (sp s i).2 ≤ i ∧ (sp s i).1.length ≤ i := by
  induction i with
  | zero => simp [sp]
  | succ i ih =>
    rw [sp]
    split
    · refine ⟨Nat.le_refl _, ?_⟩
      simp only [List.length_append]
      have : (cutF s (sp s i).2 i).length ≤ 1 := by unfold cutF; split <;> simp
      omega
    · exact ⟨by omega, by omega⟩
theorem okB_iff (c : UInt8) : okB c = true ↔ 32 ≤ c.toNat ∧ c.toNat ≤ 126 := by simp [okB]
theorem ok_next (s : ByteArray) (k : Nat) (h : k < s.size) (ha : (s.data.toList.take k).all okB = true) (h1 : 32 ≤ s[k].toNat) (h2 : s[k].toNat ≤ 126) : (s.data.toList.take (k + 1)).all okB = true := by
  rw [take_snoc s k h, List.all_append, ha]
  simp [okB, h1, h2]
theorem spR_long (s : ByteArray) (h : 600 < s.size) : spR s = ([], false) := by unfold spR; rw [if_neg (by omega)]
theorem spR_bad (s : ByteArray) (k : Nat) (h : k < s.size) (hb : s[k].toNat < 32 ∨ 126 < s[k].toNat) : spR s = ([], false) := by
  unfold spR
  rw [if_neg]
  rintro ⟨_, ha, _⟩
  have hm : s[k] ∈ s.data.toList := by
    have e : s.data.toList[k]'(by simpa using h) = s[k] := rfl
    exact e ▸ List.getElem_mem _
  have := (okB_iff _).1 (List.all_eq_true.1 ha _ hm)
  omega
theorem spR_many (s : ByteArray) (h : 24 < (spL s).length) : spR s = ([], false) := by unfold spR; rw [if_neg (by omega)]
theorem spR_yes (s : ByteArray) (h : s.size ≤ 600) (ha : s.data.toList.all okB = true) (hl : (spL s).length ≤ 24) : spR s = (spL s, true) := by unfold spR; rw [if_pos ⟨h, ha, hl⟩]

/-- A list of strings, as a row's cells. -/
def strV (l : List ByteArray) : List Value := l.map Value.string
theorem strV_length (l : List ByteArray) : (strV l).length = l.length := by simp [strV]
theorem strV_append (a b : List ByteArray) : strV (a ++ b) = strV a ++ strV b := by simp [strV]
theorem owns_strs {B e m : Nat} {w : World} {v : Value} {xs : List Value} {l : List ByteArray} (h : w.ownsRow B e 1 v m xs) (hl : strV l = xs) : w.ownsRow B e 1 v l.length (strV l) := by
  have hm : m = l.length := by have := h.1; rw [← hl, strV_length] at this; omega
  rw [← hm, hl]; exact h

theorem owns_shape {B T n : Nat} {w : World} {v : Value} {xs : List Value} (h : w.ownsRow B T 1 v n xs) : ∃ a c, v = .slice a n c := by
  rcases h.2 with ⟨rfl, rfl⟩ | ⟨g, cap, cur, rfl, _⟩
  · exact ⟨_, _, rfl⟩
  · exact ⟨_, _, rfl⟩
theorem owns_below {B T n : Nat} {w w' : World} {v : Value} {xs : List Value} (h : w.ownsRow B T 1 v n xs) (hb : Below w.heap.size w w') : w'.ownsRow B T 1 v n xs :=
  h.kept (row := none) ⟨hb.os, hb.tape, hb.output, hb.size, fun j hj _ => hb.block j hj⟩ (by
    cases v.ownBlock with
    | none => exact .inl rfl
    | some x => exact .inr (by simp))
theorem spR_len (s : ByteArray) : (spR s).1.length ≤ 24 := by
  unfold spR
  split
  · rename_i h; exact h.2.2
  · simp
/-- What a function returns that makes a list of strings: the list, in a row of its own from block B on. -/
def Strs (T B : Nat) (l : List ByteArray) (ok : Bool) (w : World) (e : Ending) (w' : World) : Prop :=
  ∃ v, e = .returned (.tuple #[v, .bool ok]) ∧ w'.ownsRow B T 1 v l.length (strV l) ∧ Below w.heap.size w w'
/-- What was appended to. -/
def AppS (T B : Nat) (l : List ByteArray) (row : Option Nat) (w : World) (e : Ending) (w' : World) : Prop :=
  ∃ v, e = .returned v ∧ w'.ownsRow B T 1 v l.length (strV l) ∧ w.grownBy w' row
/-- One field more, if it is not empty. -/
def oneF (f : ByteArray) : List ByteArray := if f.size = 0 then [] else [f]
theorem oneF_cut (s : ByteArray) (b i : Nat) (h : b ≤ i) (hi : i ≤ s.size) : oneF (s.extract b i) = cutF s b i := by
  unfold oneF cutF
  have : (s.extract b i).size = i - b := by simp [ByteArray.size_extract]; omega
  rw [this]
  by_cases hb : b < i
  · rw [if_neg (by omega), if_pos hb]
  · rw [if_pos (by omega), if_neg hb]
end Go.Proofs.Ytfemkbdgbpgjgaa

/-! Rows of tokens in memory. Nothing of the program -/
namespace Go.Proofs.Ytfemkbdgbpgjgaa
open Go.RowKit Go.Lib

def toksV (l : List TokL) : List Value := l.flatMap tokV
theorem tokV_length (t : TokL) : (tokV t).length = 3 := rfl
theorem toksV_length (l : List TokL) : (toksV l).length = l.length * 3 := by
  induction l with
  | nil => rfl
  | cons t r ih => simp only [toksV, List.flatMap_cons, List.length_append, tokV_length, List.length_cons] at ih ⊢; omega
theorem toksV_append (a b : List TokL) : toksV (a ++ b) = toksV a ++ toksV b := by simp [toksV]
theorem toksV_one (t : TokL) : toksV [t] = tokV t := by simp [toksV]
theorem toksV_get (l : List TokL) (j i : Nat) (h : j < l.length) (hi : i < 3) : (toksV l)[j * 3 + i]? = (tokV l[j])[i]? := by
  induction l generalizing j with
  | nil => simp at h
  | cons t r ih =>
    cases j with
    | zero =>
      simp only [toksV, List.flatMap_cons, Nat.zero_mul, Nat.zero_add, List.getElem_cons_zero]
      rw [List.getElem?_append_left (by rw [tokV_length]; exact hi)]
    | succ j =>
      have e : (j + 1) * 3 + i = 3 + (j * 3 + i) := by omega
      simp only [toksV, List.flatMap_cons, List.getElem_cons_succ] at ih ⊢
      rw [e, List.getElem?_append_right (by rw [tokV_length]; omega), tokV_length, Nat.add_sub_cancel_left]
      exact ih j (by simpa using h)

/-- What a call may read of a row of tokens: its j-th element. -/
def ReadT (w : World) (a : Option Addr) (l : List TokL) : Prop :=
  ∀ j (h : j < l.length), ∃ g, a = some ⟨g, 0, none⟩ ∧ g < w.heap.size ∧ w.cell? ⟨g, j * 3, none⟩ = some (.int .i64 l[j].kind) ∧ w.cell? ⟨g, j * 3 + 1, none⟩ = some (.int .i64 l[j].num) ∧ w.cell? ⟨g, j * 3 + 2, none⟩ = some (.string l[j].name)
theorem readT_of {B T c : Nat} {w : World} {a : Option Addr} {l : List TokL} (h : w.ownsRow B T 3 (.slice a l.length c) l.length (toksV l)) : ReadT w a l := by
  intro j hj
  rcases h.2 with ⟨he, h0⟩ | ⟨g, cap, cur, he, hB, hg, _⟩
  · omega
  · have ha : a = some ⟨g, 0, none⟩ := by injection he
    subst ha
    have hlt : g < w.heap.size := by
      rcases Nat.lt_or_ge g w.heap.size with h | h
      · exact h
      · rw [Array.getElem?_eq_none h] at hg; cases hg
    refine ⟨g, rfl, hlt, ?_, ?_, ?_⟩
    · rw [h.cellAt _ (by omega)]; exact toksV_get l j 0 hj (by omega)
    · rw [h.cellAt _ (by omega)]; exact toksV_get l j 1 hj (by omega)
    · rw [h.cellAt _ (by omega)]; exact toksV_get l j 2 hj (by omega)
theorem ReadT.below {w w' : World} {a : Option Addr} {l : List TokL} (h : ReadT w a l) (hb : Below w.heap.size w w') : ReadT w' a l := by
  intro j hj
  obtain ⟨g, e, hg, c0, c1, c2⟩ := h j hj
  exact ⟨g, e, Nat.lt_of_lt_of_le hg hb.size, (hb.cell (p := ⟨g, _, none⟩) hg).trans c0, (hb.cell (p := ⟨g, _, none⟩) hg).trans c1, (hb.cell (p := ⟨g, _, none⟩) hg).trans c2⟩
theorem ReadT.drewN {w : World} {a : Option Addr} {l : List TokL} (h : ReadT w a l) (n : Nat) : ReadT (w.drewN n) a l := h

theorem owns3_shape {B T n s : Nat} {w : World} {v : Value} {xs : List Value} (h : w.ownsRow B T s v n xs) : ∃ a c, v = .slice a n c := by
  rcases h.2 with ⟨rfl, rfl⟩ | ⟨g, cap, cur, rfl, _⟩
  · exact ⟨_, _, rfl⟩
  · exact ⟨_, _, rfl⟩
theorem owns3_below {B T n s : Nat} {w w' : World} {v : Value} {xs : List Value} (h : w.ownsRow B T s v n xs) (hb : Below w.heap.size w w') : w'.ownsRow B T s v n xs :=
  h.kept (row := none) ⟨hb.os, hb.tape, hb.output, hb.size, fun j hj _ => hb.block j hj⟩ (by
    cases v.ownBlock with
    | none => exact .inl rfl
    | some x => exact .inr (by simp))
theorem owns_toks {B e m : Nat} {w : World} {v : Value} {xs : List Value} {l : List TokL} (h : w.ownsRow B e 3 v m xs) (hl : toksV l = xs) : w.ownsRow B e 3 v l.length (toksV l) := by
  have hm : m = l.length := by have := h.1; rw [← hl, toksV_length] at this; omega
  rw [← hm, hl]; exact h
theorem grown_of_below {w w' : World} (hb : Below w.heap.size w w') (row : Option Nat) : w.grownBy w' row := ⟨hb.os, hb.tape, hb.output, hb.size, fun j hj _ => hb.block j hj⟩

/-- What a function returns that makes a row of tokens, in a row of its own from block B on. -/
def Toks (T B : Nat) (l : List TokL) (w : World) (e : Ending) (w' : World) : Prop :=
  ∃ v, e = .returned v ∧ w'.ownsRow B T 3 v l.length (toksV l) ∧ Below w.heap.size w w'
/-- The first k of a row are the tokens l, the rest is R. -/
def headT (k : Nat) (l : List TokL) (R : List Value) : List Value := toksV (l.take k) ++ R
theorem headT_set (k : Nat) (l : List TokL) (h : k < l.length) (a b c : Value) (R : List Value) :
    ((((headT k l (a :: b :: c :: R)).set (k * 3) (.int .i64 l[k].kind)).set (k * 3 + 1) (.int .i64 l[k].num)).set (k * 3 + 2) (.string l[k].name)) = headT (k + 1) l R := by
  have hl : (toksV (l.take k)).length = k * 3 := by rw [toksV_length, List.length_take]; omega
  have e : toksV (l.take (k + 1)) = toksV (l.take k) ++ tokV l[k] := by
    rw [List.take_succ_eq_append_getElem h, toksV_append, toksV_one]
  unfold headT
  rw [e, List.set_append_right _ _ (by omega), List.set_append_right _ _ (by omega), List.set_append_right _ _ (by omega), hl, List.append_assoc]
  congr 1
  rw [Nat.sub_self, Nat.add_sub_cancel_left, Nat.add_sub_cancel_left]
  rfl
theorem three (R : List Value) (n : Nat) (h : R.length = (n + 1) * 3) : ∃ a b c R', R = a :: b :: c :: R' ∧ R'.length = n * 3 := by
  match R, h with
  | a :: b :: c :: R', h => exact ⟨a, b, c, R', rfl, by simp at h; omega⟩
  | [], h => simp at h
  | [_], h => simp at h; omega
  | [_, _], h => simp at h; omega

def sumN (l : List TokL) : Nat := (l.map (·.name.size)).sum
theorem sumN_snoc (l : List TokL) (k : Nat) (h : k < l.length) : sumN (l.take (k + 1)) = sumN (l.take k) + l[k].name.size := by
  unfold sumN
  rw [List.take_succ_eq_append_getElem h, List.map_append, List.sum_append]; rfl
theorem sumN_all (l : List TokL) : sumN (l.take l.length) = sumN l := by rw [List.take_of_length_le (Nat.le_refl _)]
theorem sumN_mem (l : List TokL) (t : TokL) (h : t ∈ l) : t.name.size ≤ sumN l := by
  induction l with
  | nil => cases h
  | cons x r ih =>
    simp only [sumN, List.map_cons, List.sum_cons] at ih ⊢
    rcases List.mem_cons.1 h with rfl | h
    · omega
    · have := ih h; omega
/-- The measure that the laws take: -1, or all is small. -/
def SzT (l : List TokL) (left : Int) (w : World) (e : Ending) (w' : World) : Prop :=
  ∃ r : Int, e = .returned (.int .i64 r) ∧ Below w.heap.size w w' ∧ (r = -1 ∨ (0 ≤ r ∧ (l.length : Int) + (sumN l : Int) ≤ left))
end Go.Proofs.Ytfemkbdgbpgjgaa

/-! Plain facts on expressions. Nothing of the program -/
namespace Go.Proofs.Ytfemkbdgbpgjgaa
open Go.RowKit Go.Lib

/-- How many tokens are taken until n expressions are complete. -/
def scanN : List TokL → Nat → Option Nat
  | _, 0 => some 0
  | [], _ + 1 => none
  | t :: r, n + 1 => if tokB t = true then (scanN r (n + (arZ t).toNat)).map (· + 1) else none
def resZ (o : Option Nat) (i : Nat) : Int := match o with
  | none => -1
  | some k => (i : Int) + (k : Int)
/-- The index behind the expression that begins at an index; -1 if there is none. -/
def endZ (l : List TokL) (a : Int) : Int := if a < 0 then -1 else resZ (scanN (l.drop a.toNat) 1) a.toNat

theorem scan_zero (l : List TokL) (i : Nat) : resZ (scanN l 0) i = i := by cases l <;> simp [scanN, resZ]
theorem scan_out (l : List TokL) (i n : Nat) (h : l.length ≤ i) (hn : 0 < n) : resZ (scanN (l.drop i) n) i = -1 := by
  rw [List.drop_eq_nil_of_le h]
  cases n with
  | zero => omega
  | succ n => rfl
theorem scan_bad (l : List TokL) (i n : Nat) (h : i < l.length) (hn : 0 < n) (hb : tokB l[i] = false) : resZ (scanN (l.drop i) n) i = -1 := by
  rw [List.drop_eq_getElem_cons h]
  cases n with
  | zero => omega
  | succ n => simp only [scanN]; rw [hb]; rfl
theorem scan_ok (l : List TokL) (i n : Nat) (h : i < l.length) (hn : 0 < n) (hb : tokB l[i] = true) : resZ (scanN (l.drop i) n) i = resZ (scanN (l.drop (i + 1)) (n - 1 + (arZ l[i]).toNat)) (i + 1) := by
  rw [List.drop_eq_getElem_cons h]
  cases n with
  | zero => omega
  | succ n =>
    simp only [scanN]
    rw [if_pos hb, Nat.add_sub_cancel]
    cases scanN (l.drop (i + 1)) (n + (arZ l[i]).toNat) with
    | none => rfl
    | some k => simp only [Option.map_some, resZ]; omega
theorem scan_len (l : List TokL) : ∀ (n k : Nat), scanN l n = some k → k ≤ l.length := by
  induction l with
  | nil =>
    intro n k h
    cases n with
    | zero => simp only [scanN, Option.some.injEq] at h; omega
    | succ n => simp [scanN] at h
  | cons t r ih =>
    intro n k h
    cases n with
    | zero => simp only [scanN, Option.some.injEq] at h; omega
    | succ n =>
      simp only [scanN] at h
      split at h
      · simp only [Option.map_eq_some_iff] at h
        obtain ⟨m, hm, rfl⟩ := h
        have := ih _ _ hm
        simp; omega
      · cases h
theorem endZ_neg (l : List TokL) (a : Int) (h : a < 0) : endZ l a = -1 := by unfold endZ; rw [if_pos h]
theorem endZ_nat (l : List TokL) (i : Nat) : endZ l (i : Int) = resZ (scanN (l.drop i) 1) i := by unfold endZ; rw [if_neg (by omega)]; simp
theorem endZ_bd (l : List TokL) (a : Int) : -1 ≤ endZ l a ∧ (endZ l a = -1 ∨ (0 ≤ a ∧ a < endZ l a ∧ endZ l a ≤ l.length)) := by
  by_cases h : a < 0
  · rw [endZ_neg l a h]; omega
  obtain ⟨i, rfl⟩ := Int.eq_ofNat_of_zero_le (by omega : 0 ≤ a)
  rw [endZ_nat]
  cases hs : scanN (l.drop i) 1 with
  | none => simp [resZ]
  | some k =>
    have h1 := scan_len _ _ _ hs
    have h2 : 0 < k := by
      rcases Nat.eq_zero_or_pos k with h0 | h0
      · subst h0
        cases hd : l.drop i with
        | nil => rw [hd] at hs; simp [scanN] at hs
        | cons t r =>
          rw [hd] at hs
          simp only [scanN] at hs
          split at hs
          · simp at hs
          · cases hs
      · exact h0
    simp only [resZ]
    rw [List.length_drop] at h1
    omega
/-- At most 20 tokens, which are one expression. -/
def exprB (l : List TokL) : Bool := decide (l.length ≤ 20) && decide (endZ l 0 = (l.length : Int))
end Go.Proofs.Ytfemkbdgbpgjgaa

/-! Plain facts on decimal numerals. Nothing of the program -/
namespace Go.Proofs.Ytfemkbdgbpgjgaa
open Go.RowKit Go.Lib

/-- The digits that are still to be written: none of 0. -/
def restD (m : Nat) : List UInt8 := if m = 0 then [] else decDigits m
theorem figB_dec (n : Nat) (h : n < 10) : figB n = UInt8.ofNat (48 + n) := by unfold figB figN; rw [if_pos h]
theorem restD_step (m : Nat) (h : 0 < m) : restD m = restD (m / 10) ++ [figB (m % 10)] := by
  unfold restD
  rw [if_neg (by omega), figB_dec _ (by omega), decDigits]
  by_cases h1 : m < 10
  · rw [dif_pos h1, if_pos (by omega)]; simp; congr 1; omega
  · rw [dif_neg h1, if_neg (by omega)]
theorem restD_pos (m : Nat) (h : 0 < m) : restD m = decDigits m := by unfold restD; rw [if_neg (by omega)]
theorem restD_len (k : Nat) : ∀ m : Nat, m < 10 ^ k → (restD m).length ≤ k := by
  induction k with
  | zero => intro m h; have : m = 0 := by simpa using h
            subst this; simp [restD]
  | succ k ih =>
    intro m h
    by_cases h0 : 0 < m
    · rw [restD_step m h0]
      have := ih (m / 10) (by rw [Nat.pow_succ] at h; omega)
      simp; omega
    · have : m = 0 := by omega
      subst this; simp [restD]
theorem rest_size {m n : Nat} {t : ByteArray} (h : restD m ++ t.data.toList = restD n) (hn : n ≤ 9223372036854775808) : t.size ≤ 19 := by
  have h1 := restD_len 19 n (by omega)
  rw [← h, List.length_append, list_len] at h1
  omega
theorem rest_next {m n : Nat} {t : ByteArray} (h : restD m ++ t.data.toList = restD n) (h0 : 0 < m) : restD (m / 10) ++ ((⟨#[figB (m % 10)]⟩ : ByteArray) ++ t).data.toList = restD n := by
  rw [← h, restD_step m h0]
  simp [ByteArray.data_append]
theorem neg_tmod (m : Nat) : (-(m : Int)).tmod 10 = -((m % 10 : Nat) : Int) := by rw [Int.neg_tmod]; rfl
theorem neg_tdiv (m : Nat) : (-(m : Int)).tdiv 10 = -((m / 10 : Nat) : Int) := by rw [Int.neg_tdiv]; rfl
theorem ret_str {a b : ByteArray} (h : a.data.toList = b.data.toList) : Ending.returned (.string a) = .returned (.string b) := by
  have : a = b := ByteArray.ext (Array.toList_inj.1 h)
  rw [this]
end Go.Proofs.Ytfemkbdgbpgjgaa

/-! Plain facts on reading decimal numerals. Nothing of the program -/
namespace Go.Proofs.Ytfemkbdgbpgjgaa
open Go.RowKit Go.Lib

/-- The number up to MaxUint whose numeral l is, and true. -/
def puR (l : List UInt8) : Nat × Bool := match decFrom 0 l with
  | some n => if n ≤ 1000000000 ∧ decDigits n = l then (n, true) else (0, false)
  | none => (0, false)

theorem digit_ok (d : Nat) (h : d < 10) : digitVal (UInt8.ofNat (48 + d)) = some d := by
  have e : (UInt8.ofNat (48 + d)).toNat = 48 + d := by rw [UInt8.toNat_ofNat']; omega
  unfold digitVal
  rw [e, if_pos (by omega)]
  congr 1; omega
theorem decFrom_snoc (l : List UInt8) (b : UInt8) (d n : Nat) (h : decFrom 0 l = some n) (hb : digitVal b = some d) : decFrom 0 (l ++ [b]) = some (n * 10 + d) := by
  have := decFrom_take (l ++ [b]) l.length 0 n b d (by simpa using h) (by simp) hb
  simpa [List.take_of_length_le] using this
theorem dec_digits (n : Nat) : decFrom 0 (decDigits n) = some n := by
  induction n using Nat.strongRecOn with
  | ind n ih =>
    rw [decDigits]
    by_cases h : n < 10
    · rw [dif_pos h]
      unfold decFrom
      rw [digit_ok n h]
      show some (0 * 10 + n) = some n
      congr 1; omega
    · rw [dif_neg h]
      rw [decFrom_snoc _ _ _ _ (ih (n / 10) (by omega)) (digit_ok (n % 10) (by omega))]
      congr 1; omega
theorem digits_len (n : Nat) (h : n ≤ 1000000000) : (decDigits n).length ≤ 10 := by
  by_cases h0 : 0 < n
  · rw [← restD_pos n h0]; exact restD_len 10 n (by omega)
  · have : n = 0 := by omega
    subst this; decide +kernel
theorem digits_head (n : Nat) : ∃ b r, decDigits n = b :: r := by
  rw [decDigits]
  by_cases h : n < 10
  · rw [dif_pos h]; exact ⟨_, [], rfl⟩
  · rw [dif_neg h]
    cases decDigits (n / 10) with
    | nil => exact ⟨_, _, rfl⟩
    | cons b r => exact ⟨_, _, rfl⟩
theorem puR_long (l : List UInt8) (h : 10 < l.length) : puR l = (0, false) := by
  unfold puR
  split
  · split
    · rename_i n _ hn
      have := digits_len n hn.1
      rw [hn.2] at this; omega
    · rfl
  · rfl
theorem puR_none (l : List UInt8) (h : decFrom 0 l = none) : puR l = (0, false) := by unfold puR; rw [h]
theorem puR_some (l : List UInt8) (n : Nat) (h : decFrom 0 l = some n) : puR l = if n ≤ 1000000000 ∧ decDigits n = l then (n, true) else (0, false) := by unfold puR; rw [h]
theorem puR_is (n : Nat) (h : n ≤ 1000000000) : puR (decDigits n) = (n, true) := by rw [puR_some _ n (dec_digits n), if_pos ⟨h, rfl⟩]
theorem puR_bad (s : ByteArray) (k m : Nat) (hk : k < s.size) (_hm : decFrom 0 (s.data.toList.take k) = some m) (hd : digitVal s[k] = none) : puR s.data.toList = (0, false) := by
  refine puR_none _ ?_
  cases hc : decFrom 0 s.data.toList with
  | none => rfl
  | some n =>
    obtain ⟨d, hd'⟩ := digit_of_decFrom _ _ _ hc k s[k] (by rw [List.getElem?_eq_getElem (by simpa using hk)]; rfl)
    rw [hd] at hd'; cases hd'
theorem digit_none (c : UInt8) (h : c.toNat < 48 ∨ 57 < c.toNat) : digitVal c = none := by unfold digitVal; rw [if_neg (by omega)]
theorem digit_some (c : UInt8) (h : 48 ≤ c.toNat) (h' : c.toNat ≤ 57) : digitVal c = some (c.toNat - 48) := by unfold digitVal; rw [if_pos ⟨h, h'⟩]
theorem dec_next (s : ByteArray) (k m : Nat) (hk : k < s.size) (hm : decFrom 0 (s.data.toList.take k) = some m) (h : 48 ≤ s[k].toNat) (h' : s[k].toNat ≤ 57) :
    decFrom 0 (s.data.toList.take (k + 1)) = some (m * 10 + (s[k].toNat - 48)) :=
  decFrom_take _ k 0 m s[k] _ hm (by rw [List.getElem?_eq_getElem (by simpa using hk)]; rfl) (digit_some _ h h')
theorem dec_small {l : List UInt8} {m : Nat} (h : decFrom 0 l = some m) (hl : l.length ≤ 10) : m < 10000000000 := by
  have := decFrom_lt l 0 m h
  have h2 : 10 ^ l.length ≤ 10 ^ 10 := Nat.pow_le_pow_right (by decide) hl
  simp at this
  omega
/-- What Atoi answers at a numeral up to MaxUint. -/
theorem atoi_digits (n : Nat) (h : n ≤ 1000000000) : atoiAll (decDigits n) = .ok (n : Int) := by
  rw [atoiAll_short _ (by have := digits_len n h; omega)]
  obtain ⟨b, r, hb⟩ := digits_head n
  have hd := dec_digits n
  rw [hb] at hd
  obtain ⟨d, hdv⟩ := digit_of_decFrom _ _ _ hd 0 b rfl
  have hb48 : 48 ≤ b.toNat := by
    unfold digitVal at hdv
    split at hdv
    · omega
    · cases hdv
  rw [hb]
  have n45 : (b == 45) = false := by rw [beq_eq_false_iff_ne]; intro e; subst e; exact absurd hb48 (by decide)
  have n43 : (b == 43) = false := by rw [beq_eq_false_iff_ne]; intro e; subst e; exact absurd hb48 (by decide)
  unfold atoi
  simp only [n45, n43, decNat, List.isEmpty_cons, hd]
  rfl
/-- By what Atoi answers. -/
theorem puR_atoi_no (l : List UInt8) (h : ∀ v, atoiAll l ≠ .ok v) : puR l = (0, false) := by
  unfold puR
  split
  · split
    · rename_i n _ hn
      rw [← hn.2] at h
      exact absurd (atoi_digits n hn.1) (h _)
    · rfl
  · rfl
theorem puR_atoi_out (l : List UInt8) (v : Int) (h : atoiAll l = .ok v) (hv : v < 0 ∨ 1000000000 < v) : puR l = (0, false) := by
  unfold puR
  split
  · split
    · rename_i n _ hn
      rw [← hn.2, atoi_digits n hn.1] at h
      injection h with h
      omega
    · rfl
  · rfl
theorem puR_atoi_ne (l : List UInt8) (v : Nat) (h : atoiAll l = .ok (v : Int)) (hv : decDigits v ≠ l) : puR l = (0, false) := by
  unfold puR
  split
  · split
    · rename_i n _ hn
      rw [← hn.2, atoi_digits n hn.1] at h
      injection h with h
      have : n = v := by omega
      subst this
      exact absurd hn.2 hv
    · rfl
  · rfl
theorem ret_pu {l : List UInt8} {a : Int} {n : Nat} {b : Bool} (h : puR l = (n, b)) (ha : a = n) : Ending.returned (.tuple #[.int .i64 a, .bool b]) = .returned (.tuple #[.int .i64 ((puR l).1 : Nat), .bool (puR l).2]) := by rw [h, ha]
theorem itoa_nat (n : Nat) : itoa (n : Int) = decDigits n := by unfold itoa; rw [if_neg (by omega)]; simp
end Go.Proofs.Ytfemkbdgbpgjgaa

/-! Plain facts on the texts of tokens. Nothing of the program -/
namespace Go.Proofs.Ytfemkbdgbpgjgaa
open Go.RowKit Go.Lib

/-- The operator's byte. -/
def opB (k : Int) : UInt8 := if k = 2 then 43 else if k = 3 then 45 else if k = 4 then 42 else if k = 5 then 60 else 61
/-- A number's numeral. -/
def numT (n : Int) : ByteArray := ⟨(itoa n).toArray⟩
/-- A token's text. -/
def fmtT (t : TokL) : ByteArray :=
  if tokB t = true then (if t.kind = 0 then numT t.num else if t.kind = 1 then t.name else if t.kind = 7 then t.name ++ ⟨#[47]⟩ ++ numT t.num else ⟨#[opB t.kind]⟩) else ⟨#[]⟩
theorem fmtT_bad (t : TokL) (h : tokB t = false) : fmtT t = ⟨#[]⟩ := by unfold fmtT; rw [h]; rfl
theorem fmtT_0 (n : Int) (s : ByteArray) (h : tokB ⟨0, n, s⟩ = true) : fmtT ⟨0, n, s⟩ = numT n := by unfold fmtT; rw [h]; rfl
theorem fmtT_1 (n : Int) (s : ByteArray) (h : tokB ⟨1, n, s⟩ = true) : fmtT ⟨1, n, s⟩ = s := by unfold fmtT; rw [h]; rfl
theorem fmtT_7 (n : Int) (s : ByteArray) (h : tokB ⟨7, n, s⟩ = true) : fmtT ⟨7, n, s⟩ = s ++ ⟨#[47]⟩ ++ numT n := by unfold fmtT; rw [h]; rfl
theorem fmtT_op (k n : Int) (s : ByteArray) (h : tokB ⟨k, n, s⟩ = true) (h0 : k ≠ 0) (h1 : k ≠ 1) (h7 : k ≠ 7) : fmtT ⟨k, n, s⟩ = ⟨#[opB k]⟩ := by
  unfold fmtT; rw [if_pos h, if_neg h0, if_neg h1, if_neg h7]
theorem tok_0 (n : Int) (s : ByteArray) (h : tokB ⟨0, n, s⟩ = true) : 0 ≤ n ∧ n ≤ 999 ∧ s.size = 0 := by rw [tokB_0] at h; simpa [noName] using h
theorem tok_1 (n : Int) (s : ByteArray) (h : tokB ⟨1, n, s⟩ = true) : n = 0 ∧ nameB s = true := by rw [tokB_1] at h; simpa using h
theorem tok_7 (n : Int) (s : ByteArray) (h : tokB ⟨7, n, s⟩ = true) : 0 ≤ n ∧ n ≤ 4 ∧ nameB s = true := by rw [tokB_7] at h; simpa using h
theorem tok_op (k n : Int) (s : ByteArray) (h : tokB ⟨k, n, s⟩ = true) (h0 : k ≠ 0) (h1 : k ≠ 1) (h7 : k ≠ 7) : 2 ≤ k ∧ k ≤ 6 ∧ n = 0 ∧ s.size = 0 := by rw [tokB_op k n s h0 h1 h7] at h; simpa [noName] using h
theorem numT_size (n : Int) (h0 : 0 ≤ n) (h1 : n ≤ 1000000000) : (numT n).size ≤ 10 := by
  obtain ⟨m, rfl⟩ := Int.eq_ofNat_of_zero_le h0
  have := digits_len m (by omega)
  unfold numT
  rw [itoa_nat, ← list_len]
  exact this
theorem fmtT_size (t : TokL) : (fmtT t).size ≤ 19 := by
  obtain ⟨k, n, s⟩ := t
  cases h : tokB ⟨k, n, s⟩
  · rw [fmtT_bad _ h]; show 0 ≤ 19; omega
  · by_cases h0 : k = 0
    · subst h0; rw [fmtT_0 _ _ h]; have := tok_0 _ _ h; have := numT_size n (by omega) (by omega); omega
    by_cases h1 : k = 1
    · subst h1; rw [fmtT_1 _ _ h]; have := nameB_size _ (tok_1 _ _ h).2; omega
    by_cases h7 : k = 7
    · subst h7; rw [fmtT_7 _ _ h]
      have h := tok_7 _ _ h
      have := numT_size n (by omega) (by omega); have := nameB_size _ h.2.2
      simp only [ByteArray.size_append]
      have e : (⟨#[47]⟩ : ByteArray).size = 1 := rfl
      omega
    · rw [fmtT_op _ _ _ h h0 h1 h7]
      show 1 ≤ 19
      omega
theorem ret_s {a b : ByteArray} (h : a = b) : Ending.returned (.string a) = .returned (.string b) := by rw [h]
end Go.Proofs.Ytfemkbdgbpgjgaa

/-! Plain facts on reading tokens. Nothing of the program -/
namespace Go.Proofs.Ytfemkbdgbpgjgaa
open Go.RowKit Go.Lib

def opsL : List UInt8 := [43, 45, 42, 60, 61]
/-- What the program's readTok answers. -/
def rdZ (s : ByteArray) : TokL × Bool :=
  if s.size = 1 ∧ 0 ≤ indexByte opsL (s.data.toList.headD 0) then (⟨2 + indexByte opsL (s.data.toList.headD 0), 0, ⟨#[]⟩⟩, true)
  else if 0 ≤ indexByte s.data.toList 47 then
    (⟨7, ((puR (s.data.toList.drop ((indexByte s.data.toList 47).toNat + 1))).1 : Nat), ⟨(s.data.toList.take (indexByte s.data.toList 47).toNat).toArray⟩⟩, (puR (s.data.toList.drop ((indexByte s.data.toList 47).toNat + 1))).2)
  else if (puR s.data.toList).2 = true then (⟨0, ((puR s.data.toList).1 : Nat), ⟨#[]⟩⟩, true) else (⟨1, 0, s⟩, true)
/-- What the program's ParseTok answers. -/
def ptI (s : ByteArray) : TokL × Bool := if (rdZ s).2 = true ∧ tokB (rdZ s).1 = true then ((rdZ s).1, true) else (⟨0, 0, ⟨#[]⟩⟩, false)

/-- The model's candidates. -/
def candN (s : ByteArray) : List TokL := if (puR s.data.toList).2 = true ∧ (puR s.data.toList).1 ≤ 999 then [⟨0, ((puR s.data.toList).1 : Nat), ⟨#[]⟩⟩] else []
def candC (s : ByteArray) : List TokL :=
  if 2 < s.size ∧ s.data.toList[s.size - 2]? = some 47 then [⟨7, (((s.data.toList[s.size - 1]?).getD 0).toNat : Int) - 48, ⟨(s.data.toList.take (s.size - 2)).toArray⟩⟩] else []
def candV (s : ByteArray) : List TokL := [⟨1, 0, s⟩]
def candO : List TokL := [⟨2, 0, ⟨#[]⟩⟩, ⟨3, 0, ⟨#[]⟩⟩, ⟨4, 0, ⟨#[]⟩⟩, ⟨5, 0, ⟨#[]⟩⟩, ⟨6, 0, ⟨#[]⟩⟩]
def cands (s : ByteArray) : List TokL := candV s ++ candO ++ candN s ++ candC s
def fitB (s : ByteArray) (t : TokL) : Bool := tokB t && decide (fmtT t = s)
/-- What the model's ParseTok answers. -/
def ptS (s : ByteArray) : TokL × Bool := match (cands s).find? (fitB s) with
  | some t => (t, true)
  | none => (⟨0, 0, ⟨#[]⟩⟩, false)

theorem fitB_iff (s : ByteArray) (t : TokL) : fitB s t = true ↔ tokB t = true ∧ fmtT t = s := by simp [fitB]
theorem empty_of (s : ByteArray) (h : s.size = 0) : s = ⟨#[]⟩ := empty_yes s h
theorem puR_true {l : List UInt8} {n : Nat} (h : puR l = (n, true)) : decDigits n = l ∧ n ≤ 1000000000 := by
  unfold puR at h
  split at h
  · split at h
    · rename_i m _ hm
      injection h with h _
      subst h
      exact ⟨hm.2, hm.1⟩
    · injection h with _ h; cases h
  · injection h with _ h; cases h
theorem puR_pair (l : List UInt8) : puR l = ((puR l).1, (puR l).2) := rfl
theorem digits_all (n : Nat) (c : UInt8) (h : c ∈ decDigits n) : 48 ≤ c.toNat ∧ c.toNat ≤ 57 := by
  obtain ⟨k, hk⟩ := List.mem_iff_getElem?.1 h
  obtain ⟨d, hd⟩ := digit_of_decFrom _ _ _ (dec_digits n) k c hk
  unfold digitVal at hd
  split at hd
  · assumption
  · cases hd
theorem index_no (l : List UInt8) (c : UInt8) (h : c ∉ l) : indexByte l c = -1 := by
  by_cases hp : 0 ≤ indexByte l c
  · obtain ⟨o, ho⟩ := Int.eq_ofNat_of_zero_le hp
    have := (indexByte_some ho).1
    exact absurd (List.mem_iff_getElem?.2 ⟨o, this⟩) h
  · have := indexByte_ge l c; omega
theorem index_at (a b : List UInt8) (c : UInt8) (h : c ∉ a) : indexByte (a ++ c :: b) c = (a.length : Int) := by
  induction a with
  | nil => simp [indexByte]
  | cons x r ih =>
    have hx : (x == c) = false := by rw [beq_eq_false_iff_ne]; rintro rfl; exact h (by simp)
    have hr := ih (fun hm => h (by simp [hm]))
    simp only [List.cons_append, indexByte, hx]
    rw [hr]
    have : ((r.length : Int) == -1) = false := by rw [beq_eq_false_iff_ne]; omega
    rw [this]
    simp
theorem ops_digit (c : UInt8) (h : 48 ≤ c.toNat ∧ c.toNat ≤ 57) : ¬ 0 ≤ indexByte opsL c := by
  have : c ∉ opsL := by
    intro hm
    simp only [opsL, List.mem_cons, List.not_mem_nil, or_false] at hm
    rcases hm with rfl | rfl | rfl | rfl | rfl <;> revert h <;> decide
  rw [index_no _ _ this]; omega
theorem ops_letter (c : UInt8) (h : 97 ≤ c.toNat ∧ c.toNat ≤ 122) : ¬ 0 ≤ indexByte opsL c := by
  have : c ∉ opsL := by
    intro hm
    simp only [opsL, List.mem_cons, List.not_mem_nil, or_false] at hm
    rcases hm with rfl | rfl | rfl | rfl | rfl <;> revert h <;> decide
  rw [index_no _ _ this]; omega
theorem ops_yes (c : UInt8) (h : 0 ≤ indexByte opsL c) : c ∈ opsL := by
  obtain ⟨o, ho⟩ := Int.eq_ofNat_of_zero_le h
  exact List.mem_iff_getElem?.2 ⟨o, (indexByte_some ho).1⟩
theorem low_all (s : ByteArray) (h : nameB s = true) (c : UInt8) (hc : c ∈ s.data.toList) : 97 ≤ c.toNat ∧ c.toNat ≤ 122 :=
  (lowB_iff c).1 (List.all_eq_true.1 (nameB_size s h).2.2 c hc)
theorem num_one (n : Int) (h0 : 0 ≤ n) (h1 : n ≤ 4) : ∃ c : UInt8, numT n = ⟨#[c]⟩ ∧ (c.toNat : Int) = 48 + n ∧ puR [c] = (n.toNat, true) := by
  have hh : n = 0 ∨ n = 1 ∨ n = 2 ∨ n = 3 ∨ n = 4 := by omega
  have key : ∀ m : Nat, m ≤ 4 → ∃ c : UInt8, numT (m : Int) = ⟨#[c]⟩ ∧ (c.toNat : Int) = 48 + (m : Int) ∧ puR [c] = (m, true) := by
    intro m hm
    have hd : decDigits m = [UInt8.ofNat (48 + m)] := by rw [decDigits, dif_pos (by omega)]
    refine ⟨UInt8.ofNat (48 + m), ?_, ?_, ?_⟩
    · unfold numT; rw [itoa_nat, hd]
    · have e : (UInt8.ofNat (48 + m)).toNat = 48 + m := by rw [UInt8.toNat_ofNat']; omega
      rw [e]; omega
    · rw [← hd]; exact puR_is m (by omega)
  obtain ⟨m, rfl⟩ := Int.eq_ofNat_of_zero_le h0
  exact key m (by omega)
theorem one_byte (s : ByteArray) (h : s.size = 1) : ∃ c, s = ⟨#[c]⟩ := by
  have hl : s.data.toList.length = 1 := by rw [list_len]; exact h
  match hm : s.data.toList, hl with
  | [c], _ => exact ⟨c, bl_eq hm⟩
theorem app_list (a b : ByteArray) : (a ++ b).data.toList = a.data.toList ++ b.data.toList := by simp [ByteArray.data_append]

theorem complete_S (s : ByteArray) (t : TokL) (hb : tokB t = true) (hf : fmtT t = s) : t ∈ cands s := by
  obtain ⟨k, n, nm⟩ := t
  unfold cands
  simp only [List.mem_append]
  by_cases h0 : k = 0
  · subst h0
    rw [fmtT_0 _ _ hb] at hf
    obtain ⟨n0, n1, hz⟩ := tok_0 _ _ hb
    obtain ⟨m, rfl⟩ := Int.eq_ofNat_of_zero_le n0
    have hp : puR s.data.toList = (m, true) := by rw [← hf]; unfold numT; rw [itoa_nat]; exact puR_is m (by omega)
    obtain rfl := empty_of nm hz
    refine .inl (.inr ?_)
    unfold candN
    rw [hp, if_pos ⟨rfl, by show m ≤ 999; omega⟩]
    simp
  by_cases h1 : k = 1
  · subst h1
    rw [fmtT_1 _ _ hb] at hf
    obtain ⟨rfl, _⟩ := tok_1 _ _ hb
    subst hf
    exact .inl (.inl (.inl (by simp [candV])))
  by_cases h7 : k = 7
  · subst h7
    rw [fmtT_7 _ _ hb] at hf
    obtain ⟨n0, n1, hn⟩ := tok_7 _ _ hb
    obtain ⟨c, hc, hcn, _⟩ := num_one n n0 n1
    rw [hc] at hf
    have hl : s.data.toList = nm.data.toList ++ [47, c] := by rw [← hf, app_list, app_list]; simp
    have hz : s.size = nm.size + 2 := by rw [← list_len, hl]; simp
    have h1 := (nameB_size nm hn).1
    refine .inr ?_
    unfold candC
    have e2 : s.data.toList[s.size - 2]? = some 47 := by rw [hl, hz, Nat.add_sub_cancel, List.getElem?_append_right (by simp)]; simp
    have e1 : s.data.toList[s.size - 1]? = some c := by
      rw [hl, hz, List.getElem?_append_right (by simp)]
      have : nm.size + 2 - 1 - nm.data.toList.length = 1 := by rw [list_len]; omega
      rw [this]; rfl
    have e3 : s.data.toList.take (s.size - 2) = nm.data.toList := by rw [hl, hz, Nat.add_sub_cancel, ← list_len nm, List.take_left]
    rw [if_pos ⟨by omega, e2⟩, e1, e3]
    simp only [Option.getD_some, List.mem_singleton, TokL.mk.injEq, true_and]
    exact ⟨by omega, trivial⟩
  · obtain ⟨k2, k6, rfl, hz⟩ := tok_op _ _ _ hb h0 h1 h7
    obtain rfl := empty_of nm hz
    refine .inl (.inl (.inr ?_))
    have : k = 2 ∨ k = 3 ∨ k = 4 ∨ k = 5 ∨ k = 6 := by omega
    rcases this with rfl | rfl | rfl | rfl | rfl <;> simp [candO]

theorem rdZ_op (c : UInt8) (h : 0 ≤ indexByte opsL c) : rdZ ⟨#[c]⟩ = (⟨2 + indexByte opsL c, 0, ⟨#[]⟩⟩, true) := by
  unfold rdZ
  rw [if_pos ⟨rfl, by simpa using h⟩]
  rfl
theorem rdZ_call (s : ByteArray) (h : ¬ (s.size = 1 ∧ 0 ≤ indexByte opsL (s.data.toList.headD 0))) (o : Nat) (ho : indexByte s.data.toList 47 = (o : Int)) :
    rdZ s = (⟨7, ((puR (s.data.toList.drop (o + 1))).1 : Nat), ⟨(s.data.toList.take o).toArray⟩⟩, (puR (s.data.toList.drop (o + 1))).2) := by
  unfold rdZ
  rw [if_neg h, if_pos (by rw [ho]; omega), ho]
  rfl
theorem rdZ_num (s : ByteArray) (h : ¬ (s.size = 1 ∧ 0 ≤ indexByte opsL (s.data.toList.headD 0))) (ho : indexByte s.data.toList 47 = -1) (hp : (puR s.data.toList).2 = true) : rdZ s = (⟨0, ((puR s.data.toList).1 : Nat), ⟨#[]⟩⟩, true) := by
  unfold rdZ
  rw [if_neg h, if_neg (by rw [ho]; omega), if_pos hp]
theorem rdZ_var (s : ByteArray) (h : ¬ (s.size = 1 ∧ 0 ≤ indexByte opsL (s.data.toList.headD 0))) (ho : indexByte s.data.toList 47 = -1) (hp : ¬ (puR s.data.toList).2 = true) : rdZ s = (⟨1, 0, s⟩, true) := by
  unfold rdZ
  rw [if_neg h, if_neg (by rw [ho]; omega), if_neg hp]
theorem head_mem (s : ByteArray) (h : s.size = 1) : s.data.toList.headD 0 ∈ s.data.toList := by
  obtain ⟨c, rfl⟩ := one_byte s h
  simp

theorem complete_I (s : ByteArray) (t : TokL) (hb : tokB t = true) (hf : fmtT t = s) : rdZ s = (t, true) := by
  obtain ⟨k, n, nm⟩ := t
  by_cases h0 : k = 0
  · subst h0
    rw [fmtT_0 _ _ hb] at hf
    obtain ⟨n0, n1, hz⟩ := tok_0 _ _ hb
    obtain ⟨m, rfl⟩ := Int.eq_ofNat_of_zero_le n0
    have hl : s.data.toList = decDigits m := by rw [← hf]; unfold numT; rw [itoa_nat]
    have hp : puR s.data.toList = (m, true) := by rw [hl]; exact puR_is m (by omega)
    obtain rfl := empty_of nm hz
    have hd : ∀ c ∈ s.data.toList, 48 ≤ c.toNat ∧ c.toNat ≤ 57 := fun c hc => digits_all m c (hl ▸ hc)
    rw [rdZ_num s (fun h => ops_digit _ (hd _ (head_mem s h.1)) h.2) (index_no _ _ (fun h => by have := hd _ h; revert this; decide)) (by rw [hp]), hp]
  by_cases h1 : k = 1
  · subst h1
    rw [fmtT_1 _ _ hb] at hf
    obtain ⟨rfl, hn⟩ := tok_1 _ _ hb
    subst hf
    have hd := low_all nm hn
    refine rdZ_var nm (fun h => ops_letter _ (hd _ (head_mem nm h.1)) h.2) (index_no _ _ (fun h => by have := hd _ h; revert this; decide)) (fun h => ?_)
    have hp := puR_pair nm.data.toList
    rw [h] at hp
    have hdig := (puR_true hp).1
    have hsz := (nameB_size nm hn).1
    cases hc : nm.data.toList with
    | nil => rw [← list_len, hc] at hsz; simp at hsz
    | cons c r =>
      have h1 := hd c (by rw [hc]; simp)
      have h2 := digits_all _ c (by rw [hdig, hc]; simp)
      omega
  by_cases h7 : k = 7
  · subst h7
    rw [fmtT_7 _ _ hb] at hf
    obtain ⟨n0, n1, hn⟩ := tok_7 _ _ hb
    obtain ⟨c, hc, hcn, hpu⟩ := num_one n n0 n1
    rw [hc] at hf
    have hl : s.data.toList = nm.data.toList ++ 47 :: [c] := by rw [← hf, app_list, app_list]; simp
    have hz : s.size = nm.size + 2 := by rw [← list_len, hl]; simp
    have h1 := (nameB_size nm hn).1
    have hi : indexByte s.data.toList 47 = (nm.size : Int) := by
      rw [hl, index_at _ _ _ (fun h => by have := low_all nm hn _ h; revert this; decide), list_len]
    rw [rdZ_call s (fun h => by omega) nm.size hi]
    have e1 : s.data.toList.drop (nm.size + 1) = [c] := by
      rw [hl, ← list_len nm, List.drop_append, List.drop_eq_nil_of_le (by omega), Nat.add_sub_cancel_left]
      rfl
    have e2 : s.data.toList.take nm.size = nm.data.toList := by rw [hl, ← list_len nm, List.take_left]
    rw [e1, e2, hpu]
    have e3 : ((n.toNat : Nat) : Int) = n := by omega
    show ((⟨7, ((n.toNat : Nat) : Int), ⟨nm.data.toList.toArray⟩⟩, true) : TokL × Bool) = _
    rw [e3]
  · rw [fmtT_op _ _ _ hb h0 h1 h7] at hf
    obtain ⟨k2, k6, rfl, hz⟩ := tok_op _ _ _ hb h0 h1 h7
    obtain rfl := empty_of nm hz
    subst hf
    have : k = 2 ∨ k = 3 ∨ k = 4 ∨ k = 5 ∨ k = 6 := by omega
    rcases this with rfl | rfl | rfl | rfl | rfl
    all_goals
      rw [rdZ_op _ (by decide)]
      rfl

theorem sound_I (s : ByteArray) (h2 : (rdZ s).2 = true) (hb : tokB (rdZ s).1 = true) : fmtT (rdZ s).1 = s := by
  by_cases h : s.size = 1 ∧ 0 ≤ indexByte opsL (s.data.toList.headD 0)
  · obtain ⟨c, rfl⟩ := one_byte s h.1
    have hc : 0 ≤ indexByte opsL c := by simpa using h.2
    rw [rdZ_op c hc] at hb ⊢
    have hm := ops_yes c hc
    simp only [opsL, List.mem_cons, List.not_mem_nil, or_false] at hm
    clear h h2 hc
    rcases hm with rfl | rfl | rfl | rfl | rfl
    · rw [show indexByte opsL 43 = 0 by decide] at hb ⊢; rw [fmtT_op _ _ _ hb (by decide) (by decide) (by decide)]; rfl
    · rw [show indexByte opsL 45 = 1 by decide] at hb ⊢; rw [fmtT_op _ _ _ hb (by decide) (by decide) (by decide)]; rfl
    · rw [show indexByte opsL 42 = 2 by decide] at hb ⊢; rw [fmtT_op _ _ _ hb (by decide) (by decide) (by decide)]; rfl
    · rw [show indexByte opsL 60 = 3 by decide] at hb ⊢; rw [fmtT_op _ _ _ hb (by decide) (by decide) (by decide)]; rfl
    · rw [show indexByte opsL 61 = 4 by decide] at hb ⊢; rw [fmtT_op _ _ _ hb (by decide) (by decide) (by decide)]; rfl
  by_cases hi : 0 ≤ indexByte s.data.toList 47
  · obtain ⟨o, ho⟩ := Int.eq_ofNat_of_zero_le hi
    rw [rdZ_call s h o ho] at hb h2 ⊢
    dsimp only at hb h2 ⊢
    have hp := puR_pair (s.data.toList.drop (o + 1))
    rw [h2] at hp
    have hdig := (puR_true hp).1
    rw [fmtT_7 _ _ hb]
    refine bl_eq ?_
    rw [app_list, app_list]
    unfold numT
    rw [itoa_nat, hdig]
    have hat := (indexByte_some ho).1
    show s.data.toList.take o ++ [47] ++ s.data.toList.drop (o + 1) = s.data.toList
    have hol : o < s.data.toList.length := (List.getElem?_eq_some_iff.1 hat).1
    have he := (List.getElem?_eq_some_iff.1 hat).2
    rw [List.append_assoc, List.singleton_append, ← he, ← List.drop_eq_getElem_cons hol, List.take_append_drop]
  · have ho : indexByte s.data.toList 47 = -1 := by have := indexByte_ge s.data.toList 47; omega
    by_cases hp : (puR s.data.toList).2 = true
    · rw [rdZ_num s h ho hp] at hb ⊢
      have hq := puR_pair s.data.toList
      rw [hp] at hq
      rw [fmtT_0 _ _ hb]
      refine bl_eq ?_
      unfold numT
      rw [itoa_nat]
      exact (puR_true hq).1
    · rw [rdZ_var s h ho hp] at hb ⊢
      exact fmtT_1 _ _ hb

theorem pt_same (s : ByteArray) : ptI s = ptS s := by
  unfold ptS
  cases hf : (cands s).find? (fitB s) with
  | some t =>
    have ht := (fitB_iff s t).1 (List.find?_some hf)
    have hr := complete_I s t ht.1 ht.2
    unfold ptI
    rw [hr, if_pos ⟨rfl, ht.1⟩]
  | none =>
    unfold ptI
    rw [if_neg]
    rintro ⟨h1, h2⟩
    have hs := sound_I s h1 h2
    have hm := complete_S s _ h2 hs
    exact absurd ((fitB_iff s _).2 ⟨h2, hs⟩) (List.find?_eq_none.1 hf _ hm)
end Go.Proofs.Ytfemkbdgbpgjgaa

/-! Plain facts on the texts of expressions. Nothing of the program -/
namespace Go.Proofs.Ytfemkbdgbpgjgaa
open Go.RowKit Go.Lib

def fmtsL (l : List TokL) : List ByteArray := l.map fmtT
/-- The tokens' texts, one space between them. -/
def jn (l : List TokL) : List UInt8 := Lib.join ((fmtsL l).map (·.data.toList)) [32]
def fexZ (l : List TokL) : ByteArray := if exprB l = true then ⟨(jn l).toArray⟩ else ⟨#[]⟩
theorem jn_nil : jn [] = [] := rfl
theorem joinTail_snoc (sep y : List UInt8) (r : List (List UInt8)) : joinTail sep (r ++ [y]) = joinTail sep r ++ (sep ++ y) := by simp [joinTail]
theorem jn_one (t : TokL) : jn [t] = (fmtT t).data.toList := by
  show Lib.join [(fmtT t).data.toList] [32] = _
  rw [join_one]
theorem jn_snoc (l : List TokL) (t : TokL) (h : l ≠ []) : jn (l ++ [t]) = jn l ++ [32] ++ (fmtT t).data.toList := by
  cases l with
  | nil => exact absurd rfl h
  | cons x r =>
    unfold jn fmtsL
    rw [List.map_append, List.map_append]
    simp only [List.map_cons, List.map_nil, List.cons_append]
    rw [join_cons, join_cons, joinTail_snoc]
    simp
theorem jn_take (l : List TokL) (k : Nat) (h : k < l.length) (h0 : 0 < k) : jn (l.take (k + 1)) = jn (l.take k) ++ [32] ++ (fmtT l[k]).data.toList := by
  rw [List.take_succ_eq_append_getElem h, jn_snoc]
  intro e
  have := congrArg List.length e
  rw [List.length_take, List.length_nil] at this
  omega
theorem jn_take0 (l : List TokL) (h : 0 < l.length) : jn (l.take 1) = (fmtT l[0]).data.toList := by
  rw [List.take_succ_eq_append_getElem h]
  exact jn_one _
theorem jn_len (l : List TokL) : ∀ k, k ≤ l.length → (jn (l.take k)).length ≤ 20 * k := by
  intro k
  induction k with
  | zero => intro _; simp [jn_nil]
  | succ k ih =>
    intro hk
    have hf := fmtT_size l[k]
    rcases Nat.eq_zero_or_pos k with h0 | h0
    · subst h0
      rw [jn_take0 l (by omega), list_len]
      omega
    · rw [jn_take l k (by omega) h0]
      have := ih (by omega)
      simp only [List.length_append, list_len, List.length_cons, List.length_nil]
      omega
theorem fexZ_no (l : List TokL) (h : exprB l = false) : fexZ l = ⟨#[]⟩ := by unfold fexZ; rw [h]; rfl
theorem fexZ_yes (l : List TokL) (h : exprB l = true) : fexZ l = ⟨(jn l).toArray⟩ := by unfold fexZ; rw [if_pos h]
theorem expr_len (l : List TokL) (h : exprB l = true) : 0 < l.length ∧ l.length ≤ 20 := by
  refine ⟨?_, ?_⟩
  · cases l with
    | nil => exact absurd h (by decide)
    | cons a b => simp
  · unfold exprB at h
    rw [Bool.and_eq_true, decide_eq_true_eq] at h
    exact h.1
/-- A row of strings: the first k are the texts, the others R. -/
def headS (k : Nat) (l : List TokL) (R : List Value) : List Value := strV (fmtsL (l.take k)) ++ R
theorem headS_set (k : Nat) (l : List TokL) (h : k < l.length) (a : Value) (R : List Value) : (headS k l (a :: R)).set k (.string (fmtT l[k])) = headS (k + 1) l R := by
  have hl : (strV (fmtsL (l.take k))).length = k := by rw [strV_length]; unfold fmtsL; rw [List.length_map, List.length_take]; omega
  have e : strV (fmtsL (l.take (k + 1))) = strV (fmtsL (l.take k)) ++ [.string (fmtT l[k])] := by
    rw [List.take_succ_eq_append_getElem h]
    unfold fmtsL strV
    rw [List.map_append, List.map_append]
    rfl
  unfold headS
  rw [e, List.set_append_right _ _ (by omega), hl, Nat.sub_self, List.append_assoc]
  rfl
end Go.Proofs.Ytfemkbdgbpgjgaa

/-! Plain facts on reading expressions. Nothing of the program -/
namespace Go.Proofs.Ytfemkbdgbpgjgaa
open Go.RowKit Go.Lib

/-- The tokens of words; none if one is no token's text. -/
def toksO : List ByteArray → Option (List TokL)
  | [] => some []
  | s :: r => if (ptS s).2 = true then (toksO r).map ((ptS s).1 :: ·) else none
/-- What ParseExpr answers. -/
def peZ (ws : List ByteArray) : List TokL × Bool := match toksO ws with
  | some l => if exprB l = true then (l, true) else ([], false)
  | none => ([], false)
theorem toksO_snoc (a : List ByteArray) (s : ByteArray) (l : List TokL) (h : toksO a = some l) (hs : (ptS s).2 = true) : toksO (a ++ [s]) = some (l ++ [(ptS s).1]) := by
  induction a generalizing l with
  | nil =>
    simp only [toksO, Option.some.injEq] at h
    subst h
    simp [toksO, hs]
  | cons x r ih =>
    simp only [toksO, List.cons_append] at h ⊢
    split at h
    · rename_i hx
      rw [if_pos hx]
      simp only [Option.map_eq_some_iff] at h
      obtain ⟨m, hm, rfl⟩ := h
      rw [ih m hm]
      rfl
    · cases h
theorem toksO_fail (a b : List ByteArray) (s : ByteArray) (hs : (ptS s).2 = false) : toksO (a ++ s :: b) = none := by
  induction a with
  | nil => simp [toksO, hs]
  | cons x r ih =>
    simp only [toksO, List.cons_append, ih]
    split <;> rfl
theorem toksO_len (a : List ByteArray) (l : List TokL) (h : toksO a = some l) : l.length = a.length := by
  induction a generalizing l with
  | nil => simp only [toksO, Option.some.injEq] at h; subst h; rfl
  | cons x r ih =>
    simp only [toksO] at h
    split at h
    · simp only [Option.map_eq_some_iff] at h
      obtain ⟨m, hm, rfl⟩ := h
      simp [ih m hm]
    · cases h
theorem ptS_tok (s : ByteArray) (h : (ptS s).2 = true) : tokB (ptS s).1 = true := by
  unfold ptS at h ⊢
  cases hf : (cands s).find? (fitB s) with
  | some t => exact ((fitB_iff s t).1 (List.find?_some hf)).1
  | none => rw [hf] at h; cases h
theorem tok_name (t : TokL) (h : tokB t = true) : t.name.size ≤ 8 := by
  obtain ⟨k, n, s⟩ := t
  by_cases h0 : k = 0
  · subst h0; have := tok_0 _ _ h; show s.size ≤ 8; omega
  by_cases h1 : k = 1
  · subst h1; exact (nameB_size s (tok_1 _ _ h).2).2.1
  by_cases h7 : k = 7
  · subst h7; exact (nameB_size s (tok_7 _ _ h).2.2).2.1
  · have := tok_op _ _ _ h h0 h1 h7; show s.size ≤ 8; omega
theorem toksO_names (a : List ByteArray) (l : List TokL) (h : toksO a = some l) : ∀ t ∈ l, t.name.size ≤ 8 := by
  induction a generalizing l with
  | nil => simp only [toksO, Option.some.injEq] at h; subst h; intro t ht; cases ht
  | cons x r ih =>
    simp only [toksO] at h
    split at h
    · rename_i hx
      simp only [Option.map_eq_some_iff] at h
      obtain ⟨m, hm, rfl⟩ := h
      intro t ht
      rcases List.mem_cons.1 ht with rfl | ht
      · exact tok_name _ (ptS_tok x hx)
      · exact ih m hm t ht
    · cases h
theorem names_max (a : List ByteArray) (l : List TokL) (h : toksO a = some l) : ∀ j (hj : j < l.length), l[j].name.size ≤ maxLen := fun j hj => by
  have := toksO_names a l h _ (List.getElem_mem hj)
  unfold maxLen; omega
theorem peZ_no (ws : List ByteArray) (h : toksO ws = none) : peZ ws = ([], false) := by unfold peZ; rw [h]
theorem peZ_bad (ws : List ByteArray) (l : List TokL) (h : toksO ws = some l) (hb : exprB l = false) : peZ ws = ([], false) := by unfold peZ; rw [h]; simp [hb]
theorem peZ_yes (ws : List ByteArray) (l : List TokL) (h : toksO ws = some l) (hb : exprB l = true) : peZ ws = (l, true) := by unfold peZ; rw [h]; simp [hb]
theorem peZ_len (ws : List ByteArray) : (peZ ws).1.length ≤ 20 := by
  unfold peZ
  split
  · split
    · rename_i l _ hb
      unfold exprB at hb
      rw [Bool.and_eq_true, decide_eq_true_eq] at hb
      exact hb.1
    · simp
  · simp
theorem toksO_next (ws : List ByteArray) (k : Nat) (hk : k < ws.length) (l : List TokL) (h : toksO (ws.take k) = some l) (hs : (ptS ws[k]).2 = true) : toksO (ws.take (k + 1)) = some (l ++ [(ptS ws[k]).1]) := by
  rw [List.take_succ_eq_append_getElem hk]
  exact toksO_snoc _ _ _ h hs
theorem toksO_stop (ws : List ByteArray) (k : Nat) (hk : k < ws.length) (hs : (ptS ws[k]).2 = false) : toksO ws = none := by
  have e : ws = ws.take k ++ ws[k] :: ws.drop (k + 1) := by rw [← List.drop_eq_getElem_cons hk, List.take_append_drop]
  rw [e]
  exact toksO_fail _ _ _ hs
/-- A row of tokens and a yes or no were returned. -/
def TokRes (T B : Nat) (l : List TokL) (ok : Bool) (w : World) (e : Ending) (w' : World) : Prop :=
  ∃ v, e = .returned (.tuple #[v, .bool ok]) ∧ w'.ownsRow B T 3 v l.length (toksV l) ∧ Below w.heap.size w w'
end Go.Proofs.Ytfemkbdgbpgjgaa

/-! Rows of ints in memory, and the operands' places. Nothing of the program -/
namespace Go.Proofs.Ytfemkbdgbpgjgaa
open Go.RowKit Go.Lib

def intV (l : List Int) : List Value := l.map (Value.int .i64)
theorem intV_length (l : List Int) : (intV l).length = l.length := by simp [intV]
theorem intV_append (a b : List Int) : intV (a ++ b) = intV a ++ intV b := by simp [intV]
theorem owns_ints {B e m : Nat} {w : World} {v : Value} {xs : List Value} {l : List Int} (h : w.ownsRow B e 1 v m xs) (hl : intV l = xs) : w.ownsRow B e 1 v l.length (intV l) := by
  have hm : m = l.length := by have := h.1; rw [← hl, intV_length] at this; omega
  rw [← hm, hl]; exact h
/-- What a call may read of a row of ints. -/
def ReadI (w : World) (a : Option Addr) (l : List Int) : Prop := ∀ j (h : j < l.length), ∃ g, a = some ⟨g, 0, none⟩ ∧ g < w.heap.size ∧ w.cell? ⟨g, j, none⟩ = some (.int .i64 l[j])
theorem readI_of {B T c : Nat} {w : World} {a : Option Addr} {l : List Int} (h : w.ownsRow B T 1 (.slice a l.length c) l.length (intV l)) : ReadI w a l := by
  intro j hj
  rcases h.2 with ⟨he, h0⟩ | ⟨g, cap, cur, he, hB, hg, _⟩
  · omega
  · have ha : a = some ⟨g, 0, none⟩ := by injection he
    subst ha
    have hlt : g < w.heap.size := by
      rcases Nat.lt_or_ge g w.heap.size with h | h
      · exact h
      · rw [Array.getElem?_eq_none h] at hg; cases hg
    refine ⟨g, rfl, hlt, ?_⟩
    rw [h.cellAt j (by omega)]
    simp [intV, hj]
theorem ReadI.below {w w' : World} {a : Option Addr} {l : List Int} (h : ReadI w a l) (hb : Below w.heap.size w w') : ReadI w' a l := by
  intro j hj
  obtain ⟨g, e, hg, c0⟩ := h j hj
  exact ⟨g, e, Nat.lt_of_lt_of_le hg hb.size, (hb.cell (p := ⟨g, _, none⟩) hg).trans c0⟩

/-- What a function returns that makes a row of ints, in a row of its own from block B on. -/
def Ints (T B : Nat) (l : List Int) (w : World) (e : Ending) (w' : World) : Prop :=
  ∃ v, e = .returned v ∧ w'.ownsRow B T 1 v l.length (intV l) ∧ Below w.heap.size w w'

/-- The marks from m on, n of them. -/
def mki (m n : Nat) : List Int := (List.range n).map fun j => ((m + j : Nat) : Int)
theorem mki_length (m n : Nat) : (mki m n).length = n := by simp [mki]
theorem mki_get (m n j : Nat) (h : j < (mki m n).length) : (mki m n)[j] = ((m + j : Nat) : Int) := by simp [mki]
def halfI (m k : Nat) (l : List Int) : List Int := mki m k ++ l.drop k
theorem halfI_length (m k : Nat) (l : List Int) (h : k ≤ l.length) : (halfI m k l).length = l.length := by simp [halfI, mki_length]; omega
theorem halfI_zero (m : Nat) (l : List Int) : halfI m 0 l = l := by simp [halfI, mki]
theorem halfI_all (m : Nat) (l : List Int) : halfI m l.length l = mki m l.length := by simp [halfI]
theorem halfI_set (m k : Nat) (l : List Int) (h : k < l.length) : (intV (halfI m k l)).set k (.int .i64 ((m + k : Nat) : Int)) = intV (halfI m (k + 1) l) := by
  unfold halfI
  have e : mki m (k + 1) = mki m k ++ [((m + k : Nat) : Int)] := by simp [mki, List.range_succ]
  rw [e, intV, intV, ← List.map_set, List.set_append_right _ _ (by rw [mki_length]; exact Nat.le_refl _), mki_length, Nat.sub_self, List.append_assoc]
  congr 2
  rw [List.drop_eq_getElem_cons h]
  rfl

/-- The places of k operands, the first one at index b. -/
def opsFrom (l : List TokL) : Nat → Int → List Int
  | 0, _ => []
  | k + 1, b => b :: opsFrom l k (endZ l b)
theorem opsFrom_length (l : List TokL) : ∀ (k : Nat) (b : Int), (opsFrom l k b).length = k := by
  intro k
  induction k with
  | zero => intro b; rfl
  | succ k ih => intro b; simp [opsFrom, ih]
/-- The number of operands at an index; 0 outside. -/
def arAt (l : List TokL) (b : Int) : Nat := if h : b.toNat < l.length then (arZ l[b.toNat]).toNat else 0
def opsZ (l : List TokL) (b : Int) : List Int := if endZ l b < 0 then [] else opsFrom l (arAt l b) (b + 1)
theorem opsZ_none (l : List TokL) (b : Int) (h : endZ l b < 0) : opsZ l b = [] := by unfold opsZ; rw [if_pos h]
theorem opsZ_some (l : List TokL) (i : Nat) (h : ¬ endZ l (i : Int) < 0) (hi : i < l.length) (r : Nat) (hr : arZ l[i] = (r : Int)) : opsZ l (i : Int) = opsFrom l r ((i : Int) + 1) := by
  unfold opsZ arAt
  rw [if_neg h, Int.toNat_natCast, dif_pos hi, hr]
  rfl
/-- An expression begins with a token. -/
theorem endZ_tok (l : List TokL) (i : Nat) (h : ¬ endZ l (i : Int) < 0) : ∃ hi : i < l.length, tokB l[i] = true := by
  by_cases hi : i < l.length
  · refine ⟨hi, ?_⟩
    cases hb : tokB l[i] with
    | true => rfl
    | false => rw [endZ_nat, scan_bad l i 1 hi (by omega) hb] at h; omega
  · rw [endZ_nat, scan_out l i 1 (by omega) (by omega)] at h; omega
theorem opsZ_len (l : List TokL) (b : Int) : (opsZ l b).length ≤ 4 := by
  unfold opsZ
  split
  · simp
  · rw [opsFrom_length]
    unfold arAt
    split
    · have := (arZ_bd l[b.toNat]).2; omega
    · omega
end Go.Proofs.Ytfemkbdgbpgjgaa

/-! Reading a list of strings. Nothing of the program -/
namespace Go.Proofs.Ytfemkbdgbpgjgaa
open Go.RowKit Go.Lib

/-- What a call may read of a list of strings: its j-th element. -/
def ReadS (w : World) (a : Option Addr) (l : List ByteArray) : Prop := ∀ j (h : j < l.length), ∃ g, a = some ⟨g, 0, none⟩ ∧ w.cell? ⟨g, j, none⟩ = some (.string l[j])
theorem reads_of {B T c : Nat} {w : World} {a : Option Addr} {l : List ByteArray} (h : w.ownsRow B T 1 (.slice a l.length c) l.length (strV l)) : ReadS w a l := by
  intro j hj
  rcases h.2 with ⟨he, h0⟩ | ⟨g, cap, cur, he, _⟩
  · omega
  · have ha : a = some ⟨g, 0, none⟩ := by injection he
    subst ha
    refine ⟨g, rfl, ?_⟩
    rw [h.cellAt j (by omega)]
    simp [strV, hj]
end Go.Proofs.Ytfemkbdgbpgjgaa

/-! Fields joined by spaces have the same fields. Nothing of the program -/
namespace Go.Proofs.Ytfemkbdgbpgjgaa
open Go.RowKit Go.Lib

def oneL (cur : List UInt8) : List (List UInt8) := if cur = [] then [] else [cur]
/-- The fields of bytes, cur being what stands of the first one. -/
def fl (cur : List UInt8) : List UInt8 → List (List UInt8)
  | [] => oneL cur
  | c :: r => if c = 32 then oneL cur ++ fl [] r else fl (cur ++ [c]) r
def bytesOf (l : List ByteArray) : List (List UInt8) := l.map fun f => f.data.toList

theorem ext_toList (s : ByteArray) (b i : Nat) : (s.extract b i).data.toList = (s.data.toList.drop b).take (i - b) := by rw [extract_data]
theorem ext_snoc (s : ByteArray) (b i : Nat) (h : b ≤ i) (hi : i < s.size) : (s.extract b (i + 1)).data.toList = (s.extract b i).data.toList ++ [s[i]] := by
  rw [ext_toList, ext_toList, show i + 1 - b = (i - b) + 1 by omega, List.take_succ_eq_append_getElem (by simp; omega)]
  congr 1
  simp only [List.cons.injEq, and_true]
  rw [List.getElem_drop]
  have e : b + (i - b) = i := by omega
  simp only [e]
  rfl
theorem ext_none (s : ByteArray) (b : Nat) : (s.extract b b).data.toList = [] := by rw [ext_toList]; simp
theorem cut_one (s : ByteArray) (b i : Nat) (h : b ≤ i) (hi : i ≤ s.size) : bytesOf (cutF s b i) = oneL (s.extract b i).data.toList := by
  unfold cutF oneL bytesOf
  have hl : ((s.extract b i).data.toList).length = i - b := by rw [ext_toList]; simp; omega
  by_cases hb : b < i
  · rw [if_pos hb, if_neg (by intro e; rw [e] at hl; simp at hl; omega)]; rfl
  · rw [if_neg hb, if_pos (List.length_eq_zero_iff.1 (by rw [hl]; omega))]; rfl
theorem sp_fl (s : ByteArray) : ∀ k, k ≤ s.size → bytesOf (sp s k).1 ++ fl (s.extract (sp s k).2 k).data.toList (s.data.toList.drop k) = fl [] s.data.toList := by
  intro k
  induction k with
  | zero => intro _; simp [sp, bytesOf, ext_none]
  | succ k ih =>
    intro hk
    have h0 := ih (by omega)
    have hlt : k < s.size := by omega
    have hle := (sp_le s k).1
    have hd : s.data.toList.drop k = s[k] :: s.data.toList.drop (k + 1) := by
      rw [List.drop_eq_getElem_cons (by simpa using hlt)]; rfl
    rw [hd, fl] at h0
    by_cases hc : s[k].toNat = 32
    · have hc' : s[k] = 32 := UInt8.toNat_inj.1 hc
      rw [if_pos hc'] at h0
      rw [sp_space s k hlt hc, ext_none]
      rw [← h0]
      simp only [bytesOf, List.map_append, List.append_assoc]
      congr 1
      congr 1
      exact cut_one s _ k hle (by omega)
    · have hc' : ¬ s[k] = 32 := fun e => hc (by rw [e]; rfl)
      rw [if_neg hc'] at h0
      rw [sp_other s k hlt hc, ext_snoc s _ k hle hlt]
      exact h0
theorem spL_fl (s : ByteArray) : bytesOf (spL s) = fl [] s.data.toList := by
  have h := sp_fl s s.size (Nat.le_refl _)
  rw [List.drop_of_length_le (by rw [list_len]; exact Nat.le_refl _)] at h
  unfold spL
  rw [sp_last, ← h]
  simp only [bytesOf, List.map_append]
  congr 1
  exact cut_one s _ s.size (sp_le s s.size).1 (Nat.le_refl _)

theorem fl_field (f : List UInt8) : ∀ (cur r : List UInt8), (∀ c ∈ f, c ≠ 32) → fl cur (f ++ 32 :: r) = oneL (cur ++ f) ++ fl [] r := by
  induction f with
  | nil => intro cur r _; simp [fl]
  | cons c f ih =>
    intro cur r h
    rw [List.cons_append, fl, if_neg (h c (by simp)), ih _ _ (fun x hx => h x (by simp [hx]))]
    simp
theorem fl_join (l : List (List UInt8)) (h : ∀ f ∈ l, f ≠ [] ∧ ∀ c ∈ f, c ≠ 32) : fl [] (l.map fun f => f ++ [32]).flatten = l := by
  induction l with
  | nil => rfl
  | cons f r ih =>
    have hf := h f (by simp)
    rw [List.map_cons, List.flatten_cons, List.append_assoc, List.singleton_append]
    rw [fl_field f [] _ hf.2, ih (fun g hg => h g (by simp [hg]))]
    simp [oneL, hf.1]
theorem fl_mem (L : List UInt8) : ∀ (cur : List UInt8) (f : List UInt8), (∀ c ∈ cur, c ≠ 32) → f ∈ fl cur L → f ≠ [] ∧ (∀ c ∈ f, c ≠ 32) ∧ (∀ c ∈ f, c ∈ cur ∨ c ∈ L) ∧ f.length ≤ cur.length + L.length := by
  induction L with
  | nil =>
    intro cur f hc hf
    rw [fl, oneL] at hf
    split at hf
    · cases hf
    · rename_i hne
      have : f = cur := by simpa using hf
      subst this
      exact ⟨hne, hc, fun c h => .inl h, by simp⟩
  | cons c r ih =>
    intro cur f hc hf
    rw [fl] at hf
    split at hf
    · rcases List.mem_append.1 hf with h | h
      · rw [oneL] at h
        split at h
        · cases h
        · rename_i hne
          have : f = cur := by simpa using h
          subst this
          exact ⟨hne, hc, fun c h => .inl h, by simp⟩
      · obtain ⟨h1, h2, h3, h4⟩ := ih [] f (by simp) h
        exact ⟨h1, h2, fun x hx => .inr ((h3 x hx).elim (fun h => by cases h) (fun h => by simp [h])), by simp at h4 ⊢; omega⟩
    · rename_i hne
      obtain ⟨h1, h2, h3, h4⟩ := ih (cur ++ [c]) f (by
        intro x hx
        rcases List.mem_append.1 hx with h | h
        · exact hc x h
        · have : x = c := by simpa using h
          subst this; exact hne) hf
      exact ⟨h1, h2, fun x hx => by
        rcases h3 x hx with h | h
        · rcases List.mem_append.1 h with h | h
          · exact .inl h
          · exact .inr (by have : x = c := by simpa using h
                           subst this; simp)
        · exact .inr (by simp [h]), by simp at h4 ⊢; omega⟩

/-- The fields, each with a space behind it. -/
def joinS (l : List ByteArray) : List UInt8 := ((bytesOf l).map fun f => f ++ [32]).flatten
theorem joinS_snoc (l : List ByteArray) (f : ByteArray) : joinS (l ++ [f]) = joinS l ++ (f.data.toList ++ [32]) := by simp [joinS, bytesOf]
theorem bytes_inj' {a b : List ByteArray} (h : bytesOf a = bytesOf b) : a = b := by
  induction a generalizing b with
  | nil => cases b with
    | nil => rfl
    | cons x y => simp [bytesOf] at h
  | cons x r ih => cases b with
    | nil => simp [bytesOf] at h
    | cons y q =>
      simp only [bytesOf, List.map_cons, List.cons.injEq] at h
      rw [bl_eq h.1, ih h.2]
theorem fields_of (s : ByteArray) (l : List ByteArray) (h : spR s = (l, true)) : s.size ≤ 600 ∧ s.data.toList.all okB = true ∧ spL s = l ∧ l.length ≤ 24 := by
  unfold spR at h
  split at h
  · rename_i hh
    injection h with h _
    exact ⟨hh.1, hh.2.1, h, by rw [← h]; exact hh.2.2⟩
  · injection h with _ h; cases h
theorem field_small (s : ByteArray) (l : List ByteArray) (h : spR s = (l, true)) : ∀ f ∈ l, f.size ≤ 600 := by
  intro f hf
  obtain ⟨h1, _, h3, _⟩ := fields_of s l h
  have hm : f.data.toList ∈ fl [] s.data.toList := by rw [← spL_fl, h3]; exact List.mem_map_of_mem hf
  have := (fl_mem _ [] _ (by simp) hm).2.2.2
  rw [list_len, list_len] at this
  simp at this
  omega
theorem again (s t : ByteArray) (l : List ByteArray) (h : spR s = (l, true)) (ht : t.data.toList = joinS l) (hs : t.size ≤ 600) : spR t = (l, true) := by
  obtain ⟨h1, h2, h3, h4⟩ := fields_of s l h
  have hmem : ∀ f ∈ bytesOf l, f ≠ [] ∧ (∀ c ∈ f, c ≠ 32) ∧ (∀ c ∈ f, c ∈ s.data.toList) := by
    intro f hf
    have hm : f ∈ fl [] s.data.toList := by rw [← spL_fl, h3]; exact hf
    obtain ⟨a, b, c, _⟩ := fl_mem _ [] _ (by simp) hm
    exact ⟨a, b, fun x hx => (c x hx).elim (fun h => by cases h) id⟩
  have hfl : bytesOf (spL t) = bytesOf l := by
    rw [spL_fl, ht]
    exact fl_join _ (fun f hf => ⟨(hmem f hf).1, (hmem f hf).2.1⟩)
  have hl := bytes_inj' hfl
  have hok : t.data.toList.all okB = true := by
    rw [ht, List.all_eq_true]
    intro c hc
    unfold joinS at hc
    obtain ⟨g, hg, hcg⟩ := List.mem_flatten.1 hc
    obtain ⟨f, hf, rfl⟩ := List.mem_map.1 hg
    rcases List.mem_append.1 hcg with h | h
    · exact List.all_eq_true.1 h2 c ((hmem f hf).2.2 c h)
    · have : c = 32 := by simpa using h
      subst this; rfl
  rw [spR_yes t hs hok (by rw [hl]; exact h4), hl]
end Go.Proofs.Ytfemkbdgbpgjgaa

/-! Arguments that are rows of tokens, or rows of strings, opened to cells. Nothing of the program -/
namespace Go.Proofs.Ytfemkbdgbpgjgaa
open Go.RowKit Go.Lib Go.ChangeShapes Go.WideShapes Go.Deep

/-- A row of tokens that came in: the tokens l. -/
def ArgT (w : World) (a : Option Addr) (l : List TokL) : Prop :=
  ∀ j (h : j < l.length), ∃ x, a = some x ∧ x.block < w.heap.size ∧ w.cell? (x.add (j * 3)) = some (.int .i64 l[j].kind) ∧ w.cell? ⟨(x.add (j * 3)).block, (x.add (j * 3)).off + 1, none⟩ = some (.int .i64 l[j].num) ∧ w.cell? ⟨(x.add (j * 3)).block, (x.add (j * 3)).off + 2, none⟩ = some (.string l[j].name) ∧
    l[j].name.size ≤ maxLen ∧ (Lit.int .i64 l[j].kind).wf = true ∧ (Lit.int .i64 l[j].num).wf = true
/-- A row of strings that came in. -/
def ArgS (w : World) (a : Option Addr) (l : List ByteArray) : Prop :=
  ∀ j (h : j < l.length), ∃ x, a = some x ∧ x.block < w.heap.size ∧ w.cell? (x.add j) = some (.string l[j]) ∧ l[j].size ≤ maxLen

theorem addr_block (a : Addr) (n : Nat) : (a.add n).block = a.block := by unfold Addr.add; split <;> rfl
theorem add_in (a : Addr) (n i : Nat) : a.add (n + (i + 1)) = ⟨(a.add n).block, (a.add n).off + (i + 1), none⟩ := by
  rw [← Go.Deep.add_add]
  rw [Addr.add, if_neg (by omega)]
theorem ArgT.below {w w' : World} {a : Option Addr} {l : List TokL} (h : ArgT w a l) (hb : Below w.heap.size w w') : ArgT w' a l := by
  intro j hj
  obtain ⟨x, e, hx, c0, c1, c2, r⟩ := h j hj
  exact ⟨x, e, Nat.lt_of_lt_of_le hx hb.size, (hb.cell (by rw [addr_block]; exact hx)).trans c0, (hb.cell (p := ⟨_, _, none⟩) (by rw [addr_block]; exact hx)).trans c1, (hb.cell (p := ⟨_, _, none⟩) (by rw [addr_block]; exact hx)).trans c2, r⟩
theorem ArgS.below {w w' : World} {a : Option Addr} {l : List ByteArray} (h : ArgS w a l) (hb : Below w.heap.size w w') : ArgS w' a l := by
  intro j hj
  obtain ⟨x, e, hx, c0, r⟩ := h j hj
  exact ⟨x, e, Nat.lt_of_lt_of_le hx hb.size, (hb.cell (by rw [addr_block]; exact hx)).trans c0, r⟩

theorem list_of {α : Type} (n : Nat) (Q : Nat → α → Prop) (h : ∀ j, j < n → ∃ t, Q j t) : ∃ l : List α, l.length = n ∧ ∀ j (hj : j < l.length), Q j l[j] := by
  induction n with
  | zero => exact ⟨[], rfl, fun j hj => absurd hj (by simp)⟩
  | succ n ih =>
    obtain ⟨l, hl, hq⟩ := ih (fun j hj => h j (by omega))
    obtain ⟨t, ht⟩ := h n (by omega)
    refine ⟨l ++ [t], by simp [hl], fun j hj => ?_⟩
    by_cases hjn : j < l.length
    · rw [List.getElem_append_left hjn]; exact hq j hjn
    · have : j = n := by simp at hj; omega
      subst this
      simpa [hl] using ht

section
variable {H : Type} {enc : TypeId × Value → H} {P : Program} {w : World} {base : Nat} {spare : Nat → Bool} {held : Bool}
/-- (As the kit's page on structs has it.) -/
theorem open_fields {t e : TypeId} {fs : Array Field} {fuel : Nat} {cs : List Value} {x : DataW H × List MemPlace} (ht : P.underlying t = some (.slice e)) (he : P.underlying e = some (.struct fs))
    (hone : oneCellFields P fs = true) (hC : P.cellsOf e = fs.size) (h : DataW.trod enc P w base spare held fuel t cs = some x) :
    (cs = [.slice none 0 0]) ∨
    ∃ (a : Addr) (len cap m : Nat), cs = [.slice (some a) len cap] ∧ len ≤ cap ∧ cap ≤ maxLen ∧ m = (if spare a.block then cap else len) ∧
      ∀ i, i < m → ∃ (n : Nat), ∀ (j : Nat) (f : Field), fs[j]? = some f → ∃ (v : Value) (y : DataW H × List MemPlace), w.cell? (a.add (i * fs.size + j)) = some v ∧ DataW.trod enc P w base spare held n f.type [v] = some y := by
  rcases open_slice ht h with h0 | ⟨a, len, cap, m, n, D, Pl, hcs, hb, hl, hm, hmm, hx, hi⟩
  · exact .inl h0.1
  · refine .inr ⟨a, len, cap, m, hcs, hl, hm, hmm, fun i him => ?_⟩
    obtain ⟨cs', hc, ht'⟩ := hi i him
    rw [hC] at hc
    obtain ⟨ys, n', hn', hy, hlen, hyl, hf⟩ := DataW.trod_struct he ht'
    obtain ⟨_, hcl, hat⟩ := World.cells?_some hc
    refine ⟨n', fun j f hj => ?_⟩
    obtain ⟨ho, hk⟩ := hone_of hone j f hj
    have hjl : j < fs.size := (Array.getElem?_eq_some_iff.1 hj).1
    have hcell := hat j hjl
    have hv : cs'[j]? = some (cs'[j]'(by omega)) := List.getElem?_eq_getElem (by omega)
    have h1 := hf j f hj
    rw [ho, hk] at h1
    have hone' : (cs'.drop j).take 1 = [cs'[j]'(by omega)] := by
      rw [List.drop_eq_getElem_cons (by omega)]
      rfl
    rw [hone'] at h1
    have hys : ys[j]? = some (ys[j]'(by omega)) := List.getElem?_eq_getElem (by omega)
    refine ⟨_, _, ?_, h1.trans hys⟩
    rw [← Go.Deep.add_add, hcell, hv]

theorem argT_of {t e : TypeId} {f0 f1 f2 : Field} {a : Option Addr} {len cap : Nat} {d : DataW H} {p : List MemPlace} (ht : P.underlying t = some (.slice e)) (he : P.underlying e = some (.struct #[f0, f1, f2]))
    (hone : oneCellFields P #[f0, f1, f2] = true) (hC : P.cellsOf e = 3) (h0 : P.underlying f0.type = some (.int .i64)) (h1 : P.underlying f1.type = some (.int .i64)) (h2 : P.underlying f2.type = some .string)
    (h : DataW.Trod enc P w 0 (fun _ => true) held t (.slice a len cap) d p) : ∃ l : List TokL, l.length = len ∧ len ≤ maxLen ∧ ArgT w a l := by
  obtain ⟨fuel, hf⟩ := h
  rcases open_fields ht he hone hC hf with hcs | ⟨x, len', cap', m, hcs, hl, hm, rfl, hi⟩
  · simp [Value.cells] at hcs
    obtain ⟨rfl, rfl, rfl⟩ := hcs
    exact ⟨[], rfl, by simp [maxLen], fun j hj => absurd hj (by simp)⟩
  · simp [Value.cells] at hcs
    obtain ⟨rfl, rfl, rfl⟩ := hcs
    obtain ⟨l, hll, hq⟩ := list_of len (fun j (t : TokL) => w.cell? (x.add (j * 3)) = some (.int .i64 t.kind) ∧ w.cell? ⟨(x.add (j * 3)).block, (x.add (j * 3)).off + 1, none⟩ = some (.int .i64 t.num) ∧ w.cell? ⟨(x.add (j * 3)).block, (x.add (j * 3)).off + 2, none⟩ = some (.string t.name) ∧ t.name.size ≤ maxLen ∧ (Lit.int .i64 t.kind).wf = true ∧ (Lit.int .i64 t.num).wf = true) (fun j hj => by
      obtain ⟨n, hn⟩ := hi j (by omega)
      obtain ⟨v0, y0, c0, t0⟩ := hn 0 f0 rfl
      obtain ⟨v1, y1, c1, t1⟩ := hn 1 f1 rfl
      obtain ⟨v2, y2, c2, t2⟩ := hn 2 f2 rfl
      obtain ⟨k, e0, _, w0⟩ := DataW.trod_int h0 t0
      obtain ⟨m, e1, _, w1⟩ := DataW.trod_int h1 t1
      obtain ⟨s, e2, _, w2⟩ := DataW.trod_string h2 t2
      injection e0 with e0; injection e1 with e1; injection e2 with e2
      subst e0 e1 e2
      exact ⟨⟨k, m, s⟩, c0, (add_in x (j * 3) 0) ▸ c1, (add_in x (j * 3) 1) ▸ c2, w2, w0, w1⟩)
    exact ⟨l, hll, by omega, fun j hj => ⟨x, rfl, by have := World.block_lt_of_cell? w _ (hq j hj).1; rw [addr_block] at this; exact this, hq j hj⟩⟩

theorem argS_of {t e : TypeId} {a : Option Addr} {len cap : Nat} {d : DataW H} {p : List MemPlace} (ht : P.underlying t = some (.slice e)) (he : P.underlying e = some .string) (hC : P.cellsOf e = 1)
    (h : DataW.Trod enc P w 0 (fun _ => true) held t (.slice a len cap) d p) : ∃ l : List ByteArray, l.length = len ∧ len ≤ maxLen ∧ ArgS w a l := by
  obtain ⟨fuel, hf⟩ := h
  rcases open_strings ht he hC hf with ⟨hcs, _⟩ | ⟨x, len', cap', ss, hcs, _, hl, hm, hss, _, hc, hz⟩
  · simp [Value.cells] at hcs
    obtain ⟨rfl, rfl, rfl⟩ := hcs
    exact ⟨[], rfl, by simp [maxLen], fun j hj => absurd hj (by simp)⟩
  · simp [Value.cells] at hcs
    obtain ⟨rfl, rfl, rfl⟩ := hcs
    simp at hss
    refine ⟨ss.take len, by simp; omega, by omega, fun j hj => ?_⟩
    have hj' : j < ss.length := by simp at hj; omega
    have hce := hc j hj'
    have e : ss.getD j ByteArray.empty = ss[j] := by simp [List.getD, hj']
    rw [e] at hce
    refine ⟨x, rfl, by have := World.block_lt_of_cell? w _ hce; rw [addr_block] at this; exact this, by simpa using hce, ?_⟩
    have : (ss.take len)[j] = ss[j] := by simp
    rw [this]
    exact hz _ (List.getElem_mem _)
end
end Go.Proofs.Ytfemkbdgbpgjgaa
