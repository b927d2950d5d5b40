/- The program's MachineOk. -/
import Derived.Test.YtljmkkodhnkemaaRows
import Derived.Test.YtljmkkodhnkemaaMchSame
import Derived.Outline
import Derived.Lib.Hide
import Derived.WalkSmall
namespace Go.Proofs.Ytljmkkodhnkemaa
open Go.RowKit Go.Lib

set_option maxRecDepth 100000 in
set_option maxHeartbeats 2000000 in
theorem i_machineOk (m : McL) (sa oa : Option Addr) (sc on oc : Nat) (w : World) : Calls Try.prog 8 #[mcA m (.slice sa m.st.length sc) (.slice oa on oc)] w fun e w' => e = .returned (.bool (mokB m)) ∧ Below w.heap.size w w' := by
  obtain ⟨pc, sp, fp, st, out, stt, val⟩ := m
  unfold mcA mcRow mokB
  dsimp only
  obtain ⟨n, hn⟩ : ∃ x, st.length = x := ⟨_, rfl⟩
  rw [hn]
  clear hn
  by_cases h0 : n = 1200
  · have d0 : ((n : Int) == 1200) = true := by rw [h0]; rfl
    by_cases h1 : 0 ≤ sp
    · have d1 : decide (0 ≤ sp) = true := by exact decide_eq_true h1
      by_cases h2 : sp ≤ 1200
      · have d2 : decide (sp ≤ 1200) = true := by exact decide_eq_true h2
        by_cases h3 : 0 ≤ stt
        · have d3 : decide (0 ≤ stt) = true := by exact decide_eq_true h3
          by_cases h4 : stt ≤ 2
          · have d4 : decide (stt ≤ 2) = true := by exact decide_eq_true h4
            have HR : Hid (Ending.returned (.bool true) = .returned (.bool (decide (n = 1200) && (decide (0 ≤ sp) && (decide (sp ≤ 1200) && (decide (0 ≤ stt) && decide (stt ≤ 2))))))) := Lib.hid (by simp [h0, h1, h2, h3, h4])
            clear h0 h1 h2 h3 h4
            go_enter Try.func8, Try.ntmps8
            go_wp2_with fail
            go_ret
            exact ⟨HR.out, (Below.refl _ _).alloc (Nat.le_refl _) _⟩
          · have d4 : decide (stt ≤ 2) = false := by exact decide_eq_false h4
            have HR : Hid (Ending.returned (.bool false) = .returned (.bool (decide (n = 1200) && (decide (0 ≤ sp) && (decide (sp ≤ 1200) && (decide (0 ≤ stt) && decide (stt ≤ 2))))))) := Lib.hid (by simp [h4])
            clear h0 h1 h2 h3 h4
            go_enter Try.func8, Try.ntmps8
            go_wp2_with fail
            go_ret
            exact ⟨HR.out, (Below.refl _ _).alloc (Nat.le_refl _) _⟩
        · have d3 : decide (0 ≤ stt) = false := by exact decide_eq_false h3
          have HR : Hid (Ending.returned (.bool false) = .returned (.bool (decide (n = 1200) && (decide (0 ≤ sp) && (decide (sp ≤ 1200) && (decide (0 ≤ stt) && decide (stt ≤ 2))))))) := Lib.hid (by simp [h3])
          clear h0 h1 h2 h3
          go_enter Try.func8, Try.ntmps8
          go_wp2_with fail
          go_ret
          exact ⟨HR.out, (Below.refl _ _).alloc (Nat.le_refl _) _⟩
      · have d2 : decide (sp ≤ 1200) = false := by exact decide_eq_false h2
        have HR : Hid (Ending.returned (.bool false) = .returned (.bool (decide (n = 1200) && (decide (0 ≤ sp) && (decide (sp ≤ 1200) && (decide (0 ≤ stt) && decide (stt ≤ 2))))))) := Lib.hid (by simp [h2])
        clear h0 h1 h2
        go_enter Try.func8, Try.ntmps8
        go_wp2_with fail
        go_ret
        exact ⟨HR.out, (Below.refl _ _).alloc (Nat.le_refl _) _⟩
    · have d1 : decide (0 ≤ sp) = false := by exact decide_eq_false h1
      have HR : Hid (Ending.returned (.bool false) = .returned (.bool (decide (n = 1200) && (decide (0 ≤ sp) && (decide (sp ≤ 1200) && (decide (0 ≤ stt) && decide (stt ≤ 2))))))) := Lib.hid (by simp [h1])
      clear h0 h1
      go_enter Try.func8, Try.ntmps8
      go_wp2_with fail
      go_ret
      exact ⟨HR.out, (Below.refl _ _).alloc (Nat.le_refl _) _⟩
  · have d0 : ((n : Int) == 1200) = false := by simp; omega
    have HR : Hid (Ending.returned (.bool false) = .returned (.bool (decide (n = 1200) && (decide (0 ≤ sp) && (decide (sp ≤ 1200) && (decide (0 ≤ stt) && decide (stt ≤ 2))))))) := Lib.hid (by simp [h0])
    clear h0
    go_enter Try.func8, Try.ntmps8
    go_wp2_with fail
    go_ret
    exact ⟨HR.out, (Below.refl _ _).alloc (Nat.le_refl _) _⟩
end Go.Proofs.Ytljmkkodhnkemaa
