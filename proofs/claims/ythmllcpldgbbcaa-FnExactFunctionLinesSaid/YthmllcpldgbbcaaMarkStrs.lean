/- The laws' markStringS. -/
import Derived.Test.YthmllcpldgbbcaaMarkOne
namespace Go.Proofs.Ythmllcpldgbbcaa
open Go.RowKit Go.Lib

set_option maxHeartbeats 400000 in
theorem l_markStrs (a : Option Addr) (c : Nat) (l : List ByteArray) (m B : Nat) (w : World) (hown : w.ownsRow B 9 1 (.slice a l.length c) l.length (strV l)) (hB : B ≤ w.heap.size) (hl : l.length ≤ 1048576) (h0 : 0 < m) (h1 : m ≤ 5000000) :
    Calls Try.prog 26 #[.slice a l.length c, .int .i64 (m : Int)] w fun e w' => e = .returned (.int .i64 ((m + l.length : Nat) : Int)) ∧ w'.ownsRow B 9 1 (.slice a l.length c) l.length (strV (mks m l.length)) ∧ w.grownBy w' (Value.slice a l.length c).ownBlock := by
  have HO := Lib.hid hown
  clear hown
  go_enter Try.func26, Try.ntmps26
  go_wp2_with fail
  go_loopw [1, 5] (fun x i wr => ∃ k : Nat, k ≤ l.length ∧ i = .int .i64 (k : Int) ∧ x = .int .i64 ((m + k : Nat) : Int) ∧ wr.ownsRow B 9 1 (.slice a l.length c) l.length (strV (half m k l)) ∧ w.grownBy wr (Value.slice a l.length c).ownBlock) (fun _ i _ => l.length - (intOf i).toNat)
  case atStart => exact ⟨0, Nat.zero_le _, rfl, rfl, by rw [half_zero]; exact HO.out, World.grownBy.refl _ _⟩
  case round =>
    obtain ⟨k, hk, rfl, rfl, hown, hg⟩ := hrel
    have HOW := Lib.hid hown
    have HG := Lib.hid hg
    have hsz := hg.size
    clear hown hg
    by_cases hlt : k < l.length
    · obtain ⟨g, cap, cur, he, hgB, hgw, _⟩ : ∃ g cap cur, Value.slice a l.length c = .slice (some ⟨g, 0, none⟩) l.length cap ∧ B ≤ g ∧ wr.heap[g]? = some (.cells cur 9 (0, 0)) ∧ True := by
        rcases HOW.out.2 with ⟨_, h0⟩ | ⟨g, cap, cur, he, h1, h2, _⟩
        · omega
        · exact ⟨g, cap, cur, he, h1, h2, trivial⟩
      injection he with ha _ hc
      subst ha hc
      have hgl : g < wr.heap.size := by
        rcases Nat.lt_or_ge g wr.heap.size with h | h
        · exact h
        · rw [Array.getElem?_eq_none h] at hgw; cases hgw
      clear hgw
      go_wp2_with fail
      refine (l_mark _ (m + k) _ (by omega) (by omega) (by omega)).mono ?_
      rintro e w1 ⟨rfl, b1⟩
      have HO1 : Hid (w1.ownsRow B 9 1 (.slice (some ⟨g, 0, none⟩) l.length c) l.length (strV (half m k l))) := Lib.hid (HOW.out.kept (row := none) ⟨b1.os, b1.tape, b1.output, b1.size, fun j hj _ => b1.block j hj⟩ (.inr (by simp [Value.ownBlock])))
      have hcl := HO1.out.cellAt k (by omega)
      have hkh : k < (half m k l).length := by rw [half_length _ _ _ hk]; exact hlt
      obtain ⟨y, hcell⟩ : ∃ y, w1.cell? ⟨g, k, none⟩ = some (.string y) := ⟨_, by rw [hcl]; simp [strV, hkh]; rfl⟩
      have hfr := HO1.out.frozenAt k
      have S := HO1.out.stored k (.string (mkT (m + k)))
      have HS : Hid ((w1.setCell ⟨g, k, none⟩ (.string (mkT (m + k)))).ownsRow B 9 1 (.slice (some ⟨g, 0, none⟩) l.length c) l.length (strV (half m (k + 1) l))) := Lib.hid (by
        have := S.1; rw [strV_set, half_set m k l hlt] at this; exact this)
      have HG1 : Hid (w.grownBy (w1.setCell ⟨g, k, none⟩ (.string (mkT (m + k)))) (some g)) := Lib.hid (World.grownBy.trans (World.grownBy.trans HG.out ⟨b1.os, b1.tape, b1.output, b1.size, fun j hj _ => b1.block j hj⟩) S.2)
      have k0 : (0 : Int) ≤ (k : Int) := by omega
      have k1 : (k : Int) < (l.length : Int) := by omega
      clear hcl hkh S b1
      generalize mkT (m + k) = x at *
      go_wp2
      go_roundw
      case rel => exact ⟨k + 1, by omega, by go_num, by go_num, HS.out, HG1.out⟩
      case measure => simp [intOf]; omega
    · have hkk : k = l.length := by omega
      subst hkk
      go_wp2
      go_ret
      exact ⟨rfl, by have := HOW.out; rw [half_all] at this; exact this, HG.out⟩

end Go.Proofs.Ythmllcpldgbbcaa
