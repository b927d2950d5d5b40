/- Which arguments can be stored, by their bytes; what is read from stored bytes; equality of arrays. -/
import Derived.Test.YtcflojdkaddemaaOpWide
import Derived.ChangeKeysEq
namespace Go.Proofs.Ytcflojdkaddemaa
open Go.RowKit Go.Lib

theorem valB_append (A B : List UInt8) : valB (A ++ B) = valB A + 256 ^ A.length * valB B := by
  induction A with
  | nil => simp [valB]
  | cons a r ih =>
    rw [List.cons_append, valB, valB, ih, List.length_cons, Nat.pow_succ, Nat.mul_add]
    have : 256 * (256 ^ r.length * valB B) = 256 ^ r.length * 256 * valB B := by rw [Nat.mul_comm (256 ^ r.length) 256, Nat.mul_assoc]
    omega
theorem valB_inj : ∀ (A B : List UInt8), A.length = B.length → valB A = valB B → A = B
  | [], [], _, _ => rfl
  | a :: r, b :: q, hl, hv => by
    rw [valB, valB] at hv
    have h1 := a.toNat_lt
    have h2 := b.toNat_lt
    have e1 : a.toNat = b.toNat := by omega
    have e2 : valB r = valB q := by omega
    rw [valB_inj r q (by simpa using hl) e2, UInt8.toNat_inj.1 e1]
  | [], _ :: _, hl, _ => by simp at hl
  | _ :: _, [], hl, _ => by simp at hl
theorem valB_zeros (n : Nat) : valB (List.replicate n 0) = 0 := by
  induction n with
  | zero => rfl
  | succ n ih => rw [List.replicate_succ, valB, ih]; rfl
theorem argB_take (a : Int) (m : Nat) (h : m ≤ 8) : (argB a 8).take m = argB a m := by
  unfold argB
  rw [← List.map_take, List.take_range, show min m 8 = m from by omega]
theorem argB_getD (a : Int) (k : Nat) (h : k < 8) : ((argB a 8).getD k 0).toNat = (a / ((256 ^ k : Nat) : Int) % 256).toNat := by
  unfold argB
  rw [List.getD_eq_getElem?_getD, List.getElem?_map, List.getElem?_range h]
  show (bytA a k).toNat = _
  have h1 := Int.emod_nonneg (a / ((256 ^ k : Nat) : Int)) (show (256 : Int) ≠ 0 by decide)
  have h2 := Int.emod_lt_of_pos (a / ((256 ^ k : Nat) : Int)) (show (0 : Int) < 256 by decide)
  have := byte_of (a / ((256 ^ k : Nat) : Int) % 256) h1 h2
  unfold bytA
  omega
theorem widL_eq (m : Nat) (sg : Bool) (l : List UInt8) (hl : l.length = 8) : widL m sg l = l.take m ++ List.replicate (8 - m) (filB m sg l) := by
  unfold widL widK
  rw [List.drop_of_length_le (by omega), List.append_nil]
theorem widL_length (m : Nat) (sg : Bool) (l : List UInt8) (hl : l.length = 8) (hm : m ≤ 8) : (widL m sg l).length = 8 := widK_length m 8 _ l hl hm (Nat.le_refl _)
theorem val_ff6 : valB (List.replicate 6 255) = 281474976710655 := by decide
theorem val_ff4 : valB (List.replicate 4 255) = 4294967295 := by decide
theorem valB_wide (a : Int) (m : Nat) (sg : Bool) (hm : m ≤ 8) : (valB (widL m sg (argB a 8)) : Int) = a % ((256 ^ m : Nat) : Int) + ((256 ^ m : Nat) : Int) * (valB (List.replicate (8 - m) (filB m sg (argB a 8))) : Int) := by
  rw [widL_eq m sg _ (argB_length a 8), valB_append, argB_take a m hm, argB_length, Int.natCast_add, valB_arg, Int.natCast_mul]
theorem fit_iff (c a : Int) (h0 : -9223372036854775808 ≤ a) (h1 : a ≤ 9223372036854775807) : widL (widN c) (sgnB c) (argB a 8) = argB a 8 ↔ loZ c ≤ a ∧ a ≤ hiZ c := by
  have hm : widN c ≤ 8 := Nat.le_trans (widN_le c) (by decide)
  have hval : widL (widN c) (sgnB c) (argB a 8) = argB a 8 ↔ (valB (widL (widN c) (sgnB c) (argB a 8)) : Int) = (valB (argB a 8) : Int) := by
    constructor
    · intro h; rw [h]
    · intro h
      exact valB_inj _ _ ((widL_length _ _ _ (argB_length a 8) hm).trans (argB_length a 8).symm) (by omega)
  rw [hval, valB_wide a _ _ hm, valB_arg]
  have e8 : ((256 ^ 8 : Nat) : Int) = 18446744073709551616 := by decide
  rw [e8]
  have hg1 := argB_getD a 1 (by decide)
  have hg3 := argB_getD a 3 (by decide)
  have p1 : ((256 ^ 1 : Nat) : Int) = 256 := by decide
  have p3 : ((256 ^ 3 : Nat) : Int) = 16777216 := by decide
  have p0 : ((256 ^ 0 : Nat) : Int) = 1 := by decide
  have p2 : ((256 ^ 2 : Nat) : Int) = 65536 := by decide
  have p4 : ((256 ^ 4 : Nat) : Int) = 4294967296 := by decide
  rw [p1] at hg1
  rw [p3] at hg3
  rcases fit_cases c with ⟨h1, h2, h3, h4⟩ | ⟨h1, h2, h3, h4⟩ | ⟨h1, h2, h3, h4⟩ | ⟨h1, h2, h3, h4⟩ | ⟨h1, h2, h3, h4⟩
  · rw [h1, h2, h3, h4, filB_no, valB_zeros, p0]; omega
  · rw [h1, h2, h3, h4, filB_no, valB_zeros, p1]; omega
  · rw [h1, h2, h3, h4, filB_no, valB_zeros, p2]; omega
  · rw [h1, h2, h3, h4, p2]
    by_cases hb : 128 ≤ ((argB a 8).getD 1 0).toNat
    · rw [show filB 2 true (argB a 8) = 255 from by unfold filB; exact if_pos ⟨rfl, hb⟩, show 8 - 2 = 6 from rfl, val_ff6]; omega
    · rw [show filB 2 true (argB a 8) = 0 from by unfold filB; exact if_neg (fun h => hb h.2), valB_zeros]; omega
  · rw [h1, h2, h3, h4, p4]
    by_cases hb : 128 ≤ ((argB a 8).getD 3 0).toNat
    · rw [show filB 4 true (argB a 8) = 255 from by unfold filB; exact if_pos ⟨rfl, hb⟩, show 8 - 4 = 4 from rfl, val_ff4]; omega
    · rw [show filB 4 true (argB a 8) = 0 from by unfold filB; exact if_neg (fun h => hb h.2), valB_zeros]; omega
/-- What is read from stored bytes with zeros behind them. -/
theorem read_bytes (c : Int) (B : List UInt8) (hB : B.length = widN c) : wrap64 (valB (widL (widN c) (sgnB c) (B ++ List.replicate (8 - widN c) 0)) : Int) = sgnV c (valB B) := by
  have hm : widN c ≤ 8 := Nat.le_trans (widN_le c) (by decide)
  obtain ⟨L, hL⟩ : ∃ L, B ++ List.replicate (8 - widN c) 0 = L := ⟨_, rfl⟩
  have hl : L.length = 8 := by rw [← hL, List.length_append, List.length_replicate, hB]; omega
  have ht : L.take (widN c) = B := by rw [← hL, List.take_left' hB]
  rw [hL, widL_eq _ _ L hl, ht, valB_append, hB]
  have hlt := valB_lt B
  rw [hB] at hlt
  unfold sgnV
  rcases fit_cases c with ⟨h1, h2, _, _⟩ | ⟨h1, h2, _, _⟩ | ⟨h1, h2, _, _⟩ | ⟨h1, h2, _, _⟩ | ⟨h1, h2, _, _⟩
  · rw [h1] at hlt; rw [h1, h2, filB_no, valB_zeros, if_neg (by simp)]; unfold wrap64; omega
  · rw [h1] at hlt; rw [h1, h2, filB_no, valB_zeros, if_neg (by simp)]; unfold wrap64; omega
  · rw [h1] at hlt; rw [h1, h2, filB_no, valB_zeros, if_neg (by simp)]; unfold wrap64; omega
  · rw [h1] at hlt hB ht
    rw [h1, h2]
    match B, hB with
    | [x0, x1], _ =>
      have hg : L.getD 1 0 = x1 := by rw [← hL]; rfl
      have hv : valB [x0, x1] = x0.toNat + 256 * x1.toNat := by simp [valB]
      have hx0 := x0.toNat_lt
      have hx1 := x1.toNat_lt
      have p2 : (256 : Nat) ^ 2 = 65536 := by decide
      rw [hv, p2]
      by_cases hb : 128 ≤ x1.toNat
      · rw [show filB 2 true L = 255 from by unfold filB; rw [show 2 - 1 = 1 from rfl, hg]; exact if_pos ⟨rfl, hb⟩, show 8 - 2 = 6 from rfl, val_ff6, if_pos ⟨rfl, by omega⟩]; unfold wrap64; omega
      · rw [show filB 2 true L = 0 from by unfold filB; rw [show 2 - 1 = 1 from rfl, hg]; exact if_neg (fun h => hb h.2), valB_zeros, if_neg (fun h => by have := h.2; omega)]; unfold wrap64; omega
  · rw [h1] at hlt hB ht
    rw [h1, h2]
    match B, hB with
    | [x0, x1, x2, x3], _ =>
      have hg : L.getD 3 0 = x3 := by rw [← hL]; rfl
      have hv : valB [x0, x1, x2, x3] = x0.toNat + 256 * (x1.toNat + 256 * (x2.toNat + 256 * x3.toNat)) := by simp [valB]
      have hx0 := x0.toNat_lt
      have hx1 := x1.toNat_lt
      have hx2 := x2.toNat_lt
      have hx3 := x3.toNat_lt
      have p4 : (256 : Nat) ^ 4 = 4294967296 := by decide
      rw [hv, p4]
      by_cases hb : 128 ≤ x3.toNat
      · rw [show filB 4 true L = 255 from by unfold filB; rw [show 4 - 1 = 3 from rfl, hg]; exact if_pos ⟨rfl, hb⟩, show 8 - 4 = 4 from rfl, val_ff4, if_pos ⟨rfl, by omega⟩]; unfold wrap64; omega
      · rw [show filB 4 true L = 0 from by unfold filB; rw [show 4 - 1 = 3 from rfl, hg]; exact if_neg (fun h => hb h.2), valB_zeros, if_neg (fun h => by have := h.2; omega)]; unfold wrap64; omega

theorem infoU : (Try.prog.info? 5).map (fun i => (i.zero, i.size, i.bytes)) = some (some (.int .u8 0), 1, 1) := by kernel_rfl
theorem eq_item (d i : Nat) (xs ys : Array Value) (x y : Int) (is : List Nat) (w : World) (hx : xs[i]? = some (.int .u8 x)) (hy : ys[i]? = some (.int .u8 y)) :
    (Op.eqItems (d + 1) 5 1 xs ys (i :: is)).run Try.prog w = if x = y then (Op.eqItems (d + 1) 5 1 xs ys is).run Try.prog w else .ok false w := by
  have p1 : (part 5 xs (i * 1)).run Try.prog w = .ok (.int .u8 x) w := by simp [part, go_sem, hx]
  have p2 : (part 5 ys (i * 1)).run Try.prog w = .ok (.int .u8 y) w := by simp [part, go_sem, hy]
  simp only [Op.eqItems, Sem.run_bind, p1, p2, Result.andThen_ok, run_equalIn_int w d 5 .u8 .u8 x y Try.underlying5]
  by_cases h : x = y
  · simp [h]
  · simp [h]
theorem eq_items (d : Nat) (A B : List UInt8) (hA : A.length = 8) (hB : B.length = 8) (w : World) : ∀ (n k : Nat), k + n = 8 →
    (Op.eqItems (d + 1) 5 1 (arrC A) (arrC B) (List.range' k n)).run Try.prog w = .ok (decide (A.drop k = B.drop k)) w := by
  intro n
  induction n with
  | zero =>
    intro k hk
    rw [List.drop_of_length_le (show A.length ≤ k by omega), List.drop_of_length_le (show B.length ≤ k by omega)]
    rfl
  | succ n ih =>
    intro k hk
    rw [List.range'_succ, eq_item d k _ _ _ _ _ w (arrC_at A k (by omega)) (arrC_at B k (by omega)), ih (k + 1) (by omega)]
    have hiff : (A.drop k = B.drop k) ↔ (A[k]'(by omega) = B[k]'(by omega) ∧ A.drop (k + 1) = B.drop (k + 1)) := by
      rw [List.drop_eq_getElem_cons (show k < A.length by omega), List.drop_eq_getElem_cons (show k < B.length by omega), List.cons.injEq]
    by_cases h : A[k]'(by omega) = B[k]'(by omega)
    · rw [if_pos (by rw [h])]
      congr 1
      rw [decide_eq_decide, hiff]
      exact ⟨fun e => ⟨h, e⟩, fun e => e.2⟩
    · rw [if_neg (fun e => h (UInt8.toNat_inj.1 (Int.ofNat_inj.1 e)))]
      congr 1
      exact (decide_eq_false (fun e => h (hiff.1 e).1)).symm
/-- Two arrays of eight bytes are compared byte by byte. -/
theorem run_eql_arr (A B : List UInt8) (hA : A.length = 8) (hB : B.length = 8) (w : World) :
    (binOp .eql 71 (.agg (arrC A)) (.agg (arrC B))).run Try.prog w = .ok (.bool (decide (A = B))) w := by
  obtain ⟨i0, hi, hz0, hz1, hz2⟩ := info_parts infoU
  have hc : Try.prog.cellsOf 5 = 1 := by kernel_rfl
  have e := eq_items 9998 A B hA hB w 8 0 rfl
  rw [List.drop_zero, List.drop_zero] at e
  rw [run_eql_struct, run_equalIn_array w 9999 (arrC A) (arrC B) Try.underlying71 hi, hc, List.range_eq_range', e]
  rfl
end Go.Proofs.Ytcflojdkaddemaa
