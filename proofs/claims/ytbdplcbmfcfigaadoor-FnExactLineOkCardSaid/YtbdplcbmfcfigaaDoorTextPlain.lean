/- Plain facts on bytes, hexadecimal figures and owned rows of bytes. Nothing of the program. -/
import Derived.WalkKit
import Derived.IntWalk
import Derived.Lib.BufferRead
import Derived.Laws.IdiomStrings
namespace Go.Proofs.YtbdplcbmfcfigaaDoor
open Go.RowKit Go.Lib

/-- The figure of a number below 16. -/
def figN (n : Nat) : Nat := if n < 10 then 48 + n else 87 + n
def figB (n : Nat) : UInt8 := UInt8.ofNat (figN n)
/-- The text of bytes, two figures each. -/
def hexL : List UInt8 → List UInt8
  | [] => []
  | c :: r => figB (c.toNat / 16) :: figB (c.toNat % 16) :: hexL r

theorem hexL_append (a b : List UInt8) : hexL (a ++ b) = hexL a ++ hexL b := by
  induction a with
  | nil => rfl
  | cons c r ih => simp [hexL, ih]
theorem hexL_length (a : List UInt8) : (hexL a).length = 2 * a.length := by
  induction a with
  | nil => rfl
  | cons c r ih => simp [hexL, ih]; omega
theorem figN_lt (n : Nat) (h : n < 16) : figN n < 256 := by unfold figN; split <;> omega
theorem figB_toNat (n : Nat) (h : n < 16) : (figB n).toNat = figN n := by
  unfold figB; have := figN_lt n h; simp [UInt8.toNat_ofNat']; omega

theorem take_snoc (s : ByteArray) (k : Nat) (h : k < s.size) : s.data.toList.take (k + 1) = s.data.toList.take k ++ [s[k]] := by
  rw [List.take_succ_eq_append_getElem (by simpa using h)]; rfl
theorem take_all (s : ByteArray) : s.data.toList.take s.size = s.data.toList := List.take_of_length_le (by simp)
theorem list_len (s : ByteArray) : s.data.toList.length = s.size := by simp
theorem byteCells_append (a b : List UInt8) : byteCells (a ++ b) = byteCells a ++ byteCells b := by simp [byteCells]
theorem byteCells_length (a : List UInt8) : (byteCells a).length = a.length := by simp [byteCells]

theorem byteCells_one (l : List UInt8) : ∀ u ∈ byteCells l, u.oneCell' = true := by intro u hu; simp only [byteCells, List.mem_map] at hu; obtain ⟨b, _, rfl⟩ := hu; rfl

/-- An owned row of bytes, turned into a string. -/
theorem conv_own {P : Program} (w : World) (base src dst e : Nat) (v : Value) (l : List UInt8) (hs : P.underlying src = some (.slice e)) (he : P.underlying e = some (.int .u8)) (hd : P.underlying dst = some .string)
    (h : w.ownsRow base e 1 v l.length (byteCells l)) : (convert src dst v).run P w = .ok (.string ⟨l.toArray⟩) w := by
  obtain ⟨_, h | ⟨g, cap, cur, rfl, _, hg, _, _, _, htk⟩⟩ := h
  · obtain ⟨rfl, h0⟩ := h
    have : l = [] := List.length_eq_zero_iff.1 h0
    subst this
    exact run_convert_nil_bytes w src dst e 0 hs he hd
  · exact run_convert_bytes_back w src dst e _ cap l hs he hd (bytes_of_row hg (by simpa using htk))

theorem byte_wrap (n : Nat) (h : n < 256) : IntKind.i64.wrap (n : Int) = (n : Int) := IntWalk.i64_in _ (by omega)
theorem byte_div (n : Nat) (h : n < 256) : IntKind.i64.wrap ((n : Int) / 16) = (n : Int) / 16 := IntWalk.i64_in _ (by omega)
theorem byte_mod (n : Nat) (h : n < 256) : IntKind.i64.wrap ((n : Int) % 16) = (n : Int) % 16 := IntWalk.i64_in _ (by omega)

/-- What lay below stays, behind a new block and an append to an owned row. -/
theorem below_app {B e n : Nat} {w0 wr w1 : World} {X : Obj} {v : Value} {xs : List Value} (hown : wr.ownsRow B e 1 v n xs) (hbel : Below B w0 wr) (hB : B ≤ wr.heap.size)
    (hg : (wr.alloc X).drew.grownBy w1 v.ownBlock) : Below B w0 w1 :=
  ((hbel.alloc hB X).drew).grown hg (by simp; omega) (fun k hk => (hown.lt k hk).1)
theorem below_app' {B e n : Nat} {w0 wr w1 : World} {X : Obj} {v : Value} {xs : List Value} (hown : wr.ownsRow B e 1 v n xs) (hbel : Below B w0 wr) (hB : B ≤ wr.heap.size)
    (hg : (wr.alloc X).grownBy w1 v.ownBlock) : Below B w0 w1 :=
  (hbel.alloc hB X).grown hg (by simp; omega) (fun k hk => (hown.lt k hk).1)
/-- The row's text, spelled as the next round asks it. -/
theorem owns_cast {B e m : Nat} {w : World} {v : Value} {xs : List Value} {l : List UInt8} (h : w.ownsRow B e 1 v m xs) (hl : byteCells l = xs) : w.ownsRow B e 1 v l.length (byteCells l) := by
  have hm : m = l.length := by have := h.1; rw [← hl, byteCells_length] at this; omega
  rw [← hm, hl]; exact h

/-- The figures, looked up. -/
theorem figs_at : ∀ n : Fin 16, (#[48, 49, 50, 51, 52, 53, 54, 55, 56, 57, 97, 98, 99, 100, 101, 102] : Array UInt8)[n.val]? = some (figB n.val) := by decide +kernel
theorem run_fig {P : Program} (w : World) (t : TypeId) (k : IntKind) (x : Int) (n : Nat) (ht : P.underlying t = some .string) (hx : x = n) (h : n < 16) :
    (Instr.index t (.string ⟨#[48, 49, 50, 51, 52, 53, 54, 55, 56, 57, 97, 98, 99, 100, 101, 102]⟩) (.int k x)).run P w = .ok (.int .u8 (figB n).toNat) w := by
  subst hx
  have hs : (⟨#[48, 49, 50, 51, 52, 53, 54, 55, 56, 57, 97, 98, 99, 100, 101, 102]⟩ : ByteArray).size = 16 := rfl
  have hi : 0 ≤ (n : Int) ∧ (n : Int) < ((⟨#[48, 49, 50, 51, 52, 53, 54, 55, 56, 57, 97, 98, 99, 100, 101, 102]⟩ : ByteArray).size : Int) := by rw [hs]; omega
  rw [run_index_string w t _ k n ht, dif_pos hi]
  have hf := figs_at ⟨n, h⟩
  obtain ⟨_, he⟩ := Array.getElem?_eq_some_iff.1 hf
  congr 3
  rw [← he]
  rfl

theorem bl_eq {a b : ByteArray} (h : a.data.toList = b.data.toList) : a = b := ByteArray.ext (Array.toList_inj.1 h)
theorem bl_ne {a b : ByteArray} (h : a.data.toList ≠ b.data.toList) : (a.toList == b.toList) = false := by
  rw [ByteArray.toList_eq, ByteArray.toList_eq]
  simpa using h

theorem ret_int {k : IntKind} {a b : Int} (h : a = b) : Ending.returned (.int k a) = .returned (.int k b) := by rw [h]
end Go.Proofs.YtbdplcbmfcfigaaDoor
