/- The program's canDisassemble: whether bytes consist of instructions. -/
import Derived.Test.YtljmkkodhnkemaaOpDis
import Derived.Test.YtljmkkodhnkemaaOpSzI
namespace Go.Proofs.Ytljmkkodhnkemaa
open Go.RowKit Go.Lib

set_option maxRecDepth 100000 in
set_option maxHeartbeats 1000000 in
theorem i_can (s : ByteArray) (w : World) (hm : s.size ≤ 1048576) :
    Calls Try.prog 49 #[.string s] w fun e w' => e = .returned (.bool (disB s.data.toList)) ∧ Below w.heap.size w w' := by
  have hll : s.data.toList.length = s.size := list_len s
  have HLL := Lib.hid hll
  have DC := Lib.hid (fun W (x : Int) => i_stp s x W (by omega))
  have ST := Lib.hid (Dis.start s.data.toList)
  have hms : (s.size : Int) ≤ 1048576 := by omega
  clear hll
  go_enter Try.func49, Try.ntmps49
  go_wp2_with fail
  go_loopw [3, 4] (fun x _ wr => ∃ (k : Nat), x = .int .i64 (k : Int) ∧ Hid (∃ D, Dis s.data.toList k D) ∧ k ≤ s.size ∧ Below w.heap.size w wr)
    (fun x _ _ => s.size - (intOf x).toNat)
  case atStart => exact ⟨0, rfl, Lib.hid ⟨[], ST.out⟩, Nat.zero_le _, Below.refl _ _⟩
  case round =>
    obtain ⟨k, rfl, HD, hk, hbel⟩ := hrel
    have HB := Lib.hid hbel
    have hB := hbel.size
    have HZ := Lib.hid (decZ_drop s.data.toList k)
    clear hbel
    by_cases hlt : k < s.size
    · have k0 : (0 : Int) ≤ (k : Int) := by omega
      have k1 : (k : Int) < (s.size : Int) := by omega
      cases hx : dec1 (s.data.toList.drop k) with
      | none =>
        have HN : Hid (disB s.data.toList = false) := Lib.hid (by obtain ⟨D, hD⟩ := HD.out; exact (hD.bad (by have := HLL.out; omega) hx).2)
        have DCk : Hid (∀ W : World, Calls Try.prog 57 #[.string s, .int .i64 (k : Int)] W fun e w' => e = .returned (.int .i64 0) ∧ Below W.heap.size W w') := Lib.hid (fun W => by
          have h := DC.out W (k : Int)
          rw [HZ.out, hx] at h
          exact h)
        clear hx
        go_wp2_with fail
        refine (DCk.out _).mono ?_
        rintro e w1 ⟨rfl, b1⟩
        have HB1 : Hid (Below w.heap.size w w1) := Lib.hid (HB.out.trans (b1.mono (by omega)))
        clear b1
        go_wp2
        go_ret
        exact ⟨by rw [HN.out]; rfl, HB1.out⟩
      | some y =>
        obtain ⟨x, n⟩ := y
        have HN : Hid (∃ D, Dis s.data.toList (k + n) D) := Lib.hid (by obtain ⟨D, hD⟩ := HD.out; exact ⟨_, hD.next hx⟩)
        have hsz := dec1_size _ _ _ hx
        rw [List.length_drop, HLL.out] at hsz
        have DCk : Hid (∀ W : World, Calls Try.prog 57 #[.string s, .int .i64 (k : Int)] W fun e w' => e = .returned (.int .i64 (n : Int)) ∧ Below W.heap.size W w') := Lib.hid (fun W => by
          have h := DC.out W (k : Int)
          rw [HZ.out, hx] at h
          exact h)
        have hn1 := hsz.1
        have hn2 : k + n ≤ s.size := by omega
        have hz : ((n : Int) == 0) = false := beq_eq_false_iff_ne.2 (by omega)
        clear hx hsz
        go_wp2_with fail
        refine (DCk.out _).mono ?_
        rintro e w1 ⟨rfl, b1⟩
        have HB1 : Hid (Below w.heap.size w w1) := Lib.hid (HB.out.trans (b1.mono (by omega)))
        clear b1
        go_wp2
        go_roundw
        case rel => exact ⟨k + n, by go_num, HN.out, hn2, HB1.out⟩
        case measure => simp [intOf]; omega
    · have HN : Hid (disB s.data.toList = true) := Lib.hid (by obtain ⟨D, hD⟩ := HD.out; exact (hD.done (show k = s.data.toList.length by have := HLL.out; omega)).2)
      have k1 : ¬ (k : Int) < (s.size : Int) := by omega
      go_wp2
      go_ret
      exact ⟨by rw [HN.out]; rfl, HB.out⟩
end Go.Proofs.Ytljmkkodhnkemaa
