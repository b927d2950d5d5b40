/- The laws' marks: what markText returns. -/
import Derived.Test.YtljmkkodhnkemaaRows
import Derived.Test.YtljmkkodhnkemaaPlainC
import Derived.Maps.AppendAt
import Derived.Outline
import Derived.Lib.Hide
import Derived.WalkSmall
import Derived.Deep.QuietTactic
import Derived.BigQuiet
import Derived.Deep.RegionHeld3
namespace Go.Proofs.Ytljmkkodhnkemaa
open Go.RowKit Go.Lib

set_option maxHeartbeats 400000 in
theorem l_mark (ni : Int) (n : Nat) (w : World) (hni : ni = n) (h0 : 0 < n) (h1 : n ≤ 9000000) : Calls Try.prog 42 #[.int .i64 ni] w fun e w' => e = .returned (.string (mkT n)) ∧ Below w.heap.size w w' := by
  subst hni
  have hz : decide ((n : Int) ≤ 0) = false := by simp; omega
  have HF : Hid (mkT n = (⟨#[109]⟩ : ByteArray) ++ ⟨(restD n).toArray⟩) := Lib.hid (by rw [restD_pos _ h0]; exact bl_eq (by simp [mkT, ByteArray.data_append]))
  go_enter Try.func42, Try.ntmps42
  go_wp2
  clear hz
  go_loopw [0, 3] (fun x s wr => ∃ (m : Nat) (t : ByteArray), x = .int .i64 (m : Int) ∧ s = .string t ∧ m ≤ 9000000 ∧ restD m ++ t.data.toList = restD n ∧ Below w.heap.size w wr)
    (fun x _ _ => (intOf x).toNat)
  case atStart => exact ⟨n, ⟨#[]⟩, rfl, rfl, h1, by simp, Below.refl _ _⟩
  case round =>
    obtain ⟨m, t, rfl, rfl, hm, hr, hbel⟩ := hrel
    have HR := Lib.hid hr; clear hr
    have hts := rest_size HR.out (by omega)
    by_cases hm0 : 0 < m
    · have hB := hbel.size
      have hcv := run_convert_bytes_back (P := Try.prog) (wr.alloc (.cells #[.int .u8 (figB (m % 10)).toNat] 5)) 89 9 5 ⟨wr.heap.size, 0, none⟩ 1 [figB (m % 10)] Try.underlying89 Try.underlying5 Try.underlying9
        (fun j hj => by
          have hj0 : j = 0 := by simp at hj; omega
          subst hj0
          exact cell_one_new wr (.int .u8 (figB (m % 10)).toNat) 5 0 _ rfl)
      simp only [List.length_cons, List.length_nil, Nat.zero_add] at hcv
      have hfig : ((figB (m % 10)).toNat : Int) = 48 + (m : Int) % 10 := by rw [figB_toNat _ (by omega)]; unfold figN; rw [if_pos (by omega)]; omega
      rw [hfig] at hcv
      have HN := Lib.hid (rest_next HR.out hm0)
      clear hfig
      go_wp2
      go_roundw
      case rel => exact ⟨m / 10, _, by go_num, rfl, by omega, HN.out, hbel.alloc hB _⟩
      case measure => simp [intOf]; omega
    · have hm00 : m = 0 := by omega
      subst hm00
      go_wp2
      go_ret
      exact ⟨ret_str (by rw [HF.out, ← HR.out]; simp [restD, ByteArray.data_append]), hbel⟩

end Go.Proofs.Ytljmkkodhnkemaa
