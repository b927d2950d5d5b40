/- The program's row of ints made of a law's. -/
import Derived.Test.YtfemkbdgbpgjgaaRows
import Derived.Test.YtfemkbdgbpgjgaaItmPlain
import Derived.Test.YtfemkbdgbpgjgaaMakeRowN
import Derived.Test.YtfemkbdgbpgjgaaPlainC
import Derived.Outline
import Derived.Lib.Hide
import Derived.Below
namespace Go.Proofs.Ytfemkbdgbpgjgaa
open Go.RowKit Go.Lib

theorem infoIq : (Try.prog.info? 3).map (fun i => (i.zero, i.size, i.bytes)) = some (some (.int .i64 0), 1, 8) := by kernel_rfl
def IntRes (T B : Nat) (l : List Int) (w : World) (e : Ending) (w' : World) : Prop := ∃ v, e = .returned v ∧ w'.ownsRow B T 1 v l.length (intV l) ∧ Below w.heap.size w w'
set_option maxHeartbeats 1000000 in
theorem l_toIntS (a : Option Addr) (cap : Nat) (l : List Int) (w : World) (hl : l.length ≤ 1048576) (ha : ArgIn w a l) :
    Calls Try.prog 35 #[.slice a l.length cap] w (IntRes 3 w.heap.size l w) := by
  have HA := Lib.hid ha
  clear ha
  obtain ⟨i0, hi, hz0, hz1, hz2⟩ := info_parts infoIq
  have hmk := fun W => run_make_rowN (P := Try.prog) 28 3 i0 _ 1 8 Try.underlying28 hi hz0 hz1 hz2 .i64 .i64 l.length l.length (Nat.le_refl _) (by omega) (by omega) W
  obtain ⟨cs, hcs⟩ : ∃ cs, madeCells (Value.int .i64 0).cells (l.length * 1) = cs := ⟨_, rfl⟩
  have hcsz : cs.size = l.length * 1 := by rw [← hcs, size_madeCells]
  rw [hcs] at hmk
  clear hcs hi hz0 hz1 hz2
  have HZ := Lib.hid hcsz
  clear hcsz
  go_enter Try.func35, Try.ntmps35
  go_wp2_with fail
  clear hmk
  go_loopw [4] (fun i wr => ∃ (k : Nat) (R : List Value), k ≤ l.length ∧ i = .int .i64 (k : Int) ∧ R.length = l.length - k ∧ wr.ownsRow w.heap.size 3 1 (.slice (some ⟨w.heap.size, 0, none⟩) l.length l.length) l.length (intV (l.take k) ++ R) ∧ Below w.heap.size w wr) (fun i _ => l.length - (RowKit.intOf i).toNat)
  case atStart => exact ⟨0, cs.toList, Nat.zero_le _, rfl, by have := HZ.out; simpa using this, World.ownsRow_lit _ _ _ (Nat.le_refl _) (by unfold maxLen; omega) HZ.out, (Below.refl _ _).alloc (Nat.le_refl _) _⟩
  case round =>
    obtain ⟨k, R, hk, rfl, hR, hown, hbel⟩ := hrel
    have HO := Lib.hid hown
    have HB := Lib.hid hbel
    have hB := hbel.size
    have hgl : w.heap.size < wr.heap.size := (hown.lt w.heap.size rfl).2
    clear hown
    by_cases hlt : k < l.length
    · obtain ⟨x, rfl, hx, c0⟩ := HA.out k hlt
      obtain ⟨y0, R', hRe⟩ : ∃ y R', R = y :: R' := by
        cases R with
        | nil => simp at hR; omega
        | cons y R' => exact ⟨y, R', rfl⟩
      subst hRe
      have HR' : Hid (R'.length = l.length - (k + 1)) := Lib.hid (by simp at hR; omega)
      have HS := Lib.hid (int_set k l hlt y0 R')
      obtain ⟨t, ht⟩ : ∃ t, l[k] = t := ⟨_, rfl⟩
      rw [ht] at c0 HS
      have d0 : wr.cell? (x.add k) = some (.int .i64 t) := (hbel.cell (by rw [addr_block]; exact hx)).trans c0
      have k0 : (0 : Int) ≤ (k : Int) := by omega
      have k1 : (k : Int) < (l.length : Int) := by omega
      have hlen : (intV (l.take k) ++ y0 :: R').length = l.length * 1 := HO.out.1
      obtain ⟨z0, e0⟩ : ∃ y, wr.cell? ⟨w.heap.size, k, none⟩ = some y := by
        rw [HO.out.cellAt k (by omega)]
        exact ⟨_, List.getElem?_eq_getElem (by omega)⟩
      have fr := HO.out.frozenAt
      have S1 := HO.out.stored k (.int .i64 t)
      have HO2 := Lib.hid (HS.out ▸ S1.1)
      have HB2 := Lib.hid (HB.out.grown S1.2 (by omega) (fun j hj => by injection hj with e; omega))
      clear c0 hbel ht hR hlen S1
      go_wp2
      go_roundw
      case rel => exact ⟨k + 1, R', by omega, by go_num, HR'.out, HO2.out, HB2.out⟩
      case measure => simp [RowKit.intOf]; omega
    · have hkk : k = l.length := by omega
      subst hkk
      have hR0 : R = [] := List.length_eq_zero_iff.1 (by omega)
      subst hR0
      have HF : Hid (wr.ownsRow w.heap.size 3 1 (.slice (some ⟨w.heap.size, 0, none⟩) l.length l.length) l.length (intV l)) := Lib.hid (by have h := HO.out; rw [List.take_length, List.append_nil] at h; exact h)
      clear HO hR
      go_wp2
      go_ret
      exact ⟨_, rfl, HF.out, HB.out⟩
end Go.Proofs.Ytfemkbdgbpgjgaa
