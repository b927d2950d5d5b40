/- The model's DecodeHex: what it returns. -/
import Derived.Test.YthppmncndindiaaRows
import Derived.Test.YthppmncndindiaaDecPlain
import Derived.Outline
import Derived.Maps.AppendAt
import Derived.Lib.Hide
namespace Go.Proofs.Ythppmncndindiaa
open Go.RowKit Go.Lib

theorem s_val (n : Nat) (w : World) (h : n < 256) : Calls Try.prog 26 #[.int .u8 (n : Int)] w fun e w' => e = .returned (.int .i64 (hvI n)) ∧ w = w' := by
  go_enter Try.func26, Try.ntmps26
  go_wp2
  all_goals go_ret
  all_goals exact ⟨ret_int (by unfold hvI; omega), rfl⟩

theorem infoD : (Try.prog.info? 5).map (fun i => (i.zero, i.size, i.bytes)) = some (some (.int .u8 0), 1, 1) := by kernel_rfl

theorem s_dec_no (s : ByteArray) (w : World) (hm : s.size ≤ maxLen) (h : ¬ (s.size % 2 = 0 ∧ s.size ≤ 40000)) :
    Calls Try.prog 13 #[.string s] w fun e w' => e = .returned (.tuple #[.string ⟨#[]⟩, .bool false]) ∧ w' = w := by
  unfold maxLen at hm
  by_cases h1 : 40000 < s.size
  · go_enter Try.func13, Try.ntmps13
    go_wp2
    go_ret2
    exact ⟨rfl, rfl⟩
  · have h2 : ((s.size : Int) % 2 != 0) = true := by rw [bne_iff_ne]; omega
    go_enter Try.func13, Try.ntmps13
    go_wp2
    go_ret2
    exact ⟨rfl, rfl⟩

set_option maxHeartbeats 400000 in
theorem s_dec (s : ByteArray) (w : World) (h0 : s.size % 2 = 0) (h : s.size ≤ 40000) :
    Calls Try.prog 13 #[.string s] w fun e w' => e = .returned (.tuple #[.string ⟨(decR s.data.toList).1.toArray⟩, .bool (decR s.data.toList).2]) ∧ Below w.heap.size w w' := by
  obtain ⟨i0, hi, hz0, hz1, hz2⟩ := info_parts infoD
  have h2 : ((s.size : Int) % 2 != 0) = false := by rw [bne_eq_false_iff_eq]; omega
  go_enter Try.func13, Try.ntmps13
  go_wp2
  clear h2
  go_loopw [4, 5, 6, 7] (fun v i _ _ wr => ∃ k : Nat, k ≤ s.size ∧ k % 2 = 0 ∧ i = .int .i64 k ∧ (s.data.toList.take k).all hvOk = true ∧ wr.ownsRow w.heap.size 5 1 v (decL (s.data.toList.take k)).length (byteCells (decL (s.data.toList.take k))) ∧ Below w.heap.size w wr)
    (fun _ i _ _ _ => s.size - (intOf i).toNat)
  case atStart => exact ⟨0, Nat.zero_le _, rfl, rfl, rfl, World.ownsRow_made _ _ _ (Nat.le_refl _) (by decide) (by simp), (Below.refl _ _).alloc (Nat.le_refl _) _⟩
  case round =>
    obtain ⟨k, hk, hke, rfl, hall, hown, hbel⟩ := hrel
    have HALL := Lib.hid hall; clear hall
    have HKE := Lib.hid hke; clear hke
    by_cases hlt : k < s.size
    · have hlt1 : k + 1 < s.size := by have := HKE.out; omega
      have hp : s[k].toNat < 256 := s[k].toNat_lt
      have hp1 : s[k + 1].toNat < 256 := s[k + 1].toNat_lt
      have b1 := hvI_le s[k].toNat
      have b2 := hvI_le s[k + 1].toNat
      by_cases ha : hvI s[k].toNat < 0
      · have hr := decR_bad s k hlt ha
        have HR := Lib.hid hr; clear hr
        go_wp2_with (go_at_call 26; refine (s_val _ _ (by assumption)).mono ?_; rintro e w' ⟨rfl, rfl⟩)
        all_goals go_ret2
        all_goals exact ⟨ret_dec HR.out, hbel⟩
      · by_cases hb : hvI s[k + 1].toNat < 0
        · have hr := decR_bad s (k + 1) hlt1 hb
          have HR := Lib.hid hr; clear hr
          go_wp2_with (go_at_call 26; refine (s_val _ _ (by assumption)).mono ?_; rintro e w' ⟨rfl, rfl⟩)
          all_goals go_ret2
          all_goals exact ⟨ret_dec HR.out, hbel⟩
        · have hpt := pairB_toNat s[k] s[k + 1] (by omega) (by omega)
          have HPT := Lib.hid hpt; clear hpt
          have hT : decL (s.data.toList.take (k + 2)) = decL (s.data.toList.take k) ++ [pairB s[k] s[k + 1]] := by
            rw [take_two s k hlt1, decL_append _ _ _ (by rw [List.length_take, list_len]; have := HKE.out; omega)]
          have HT := Lib.hid hT; clear hT
          have hA : (s.data.toList.take (k + 2)).all hvOk = true := by
            rw [take_two s k hlt1, List.all_append, HALL.out]; simp [hvOk]; omega
          have HA := Lib.hid hA; clear hA
          have hlen := decL_length (s.data.toList.take k)
          have hB0 := hbel.size
          have hlt40 : (s.data.toList.take k).length ≤ 40000 := by rw [List.length_take, list_len]; omega
          go_wp2_with (first
            | (go_at_call 26; refine (s_val _ _ (by assumption)).mono ?_; rintro e w' ⟨rfl, rfl⟩)
            | (at_builtin; refine wpList_append_own _ rfl _ _ 22 rfl w.heap.size 5 i0 (.int .u8 0) 1 1 Try.underlying22 hi hz0 hz1 hz2 rfl (by decide) _ _ _ rfl (hown.alloc _) ⟨wr.heap.size, 0, none⟩ 1 1 [.int .u8 (16 * hvI s[k].toNat + hvI s[k + 1].toNat)] rfl rfl ?c1 ?c2 ?c3 ?c4 ?c5 ?_))
          case c1 => exact cell_one_new _ _ _
          case c2 => intro u hu; simp at hu; subst hu; rfl
          case c3 => unfold maxLen; omega
          case c4 => omega
          case c5 => simp; omega
          intro v' w1 hown1 hgrow _
          have R := owns_cast (l := decL (s.data.toList.take (k + 2))) hown1 (by rw [HT.out, byteCells_append]; simp [byteCells, HPT.out])
          have RB := below_app' hown hbel hB0 hgrow
          have HKE2 : Hid ((k + 2) % 2 = 0) := Lib.hid (by have := HKE.out; omega)
          clear hown1 hgrow hown hbel HT HPT HALL
          go_wp2
          go_roundw
          case rel => exact ⟨k + 2, by omega, HKE2.out, by go_num, HA.out, R, RB⟩
          case measure => simp [intOf]; omega
    · have hkk : k = s.size := by omega
      have hr := decR_yes s.data.toList (by rw [list_len]; exact h0) (by rw [list_len]; exact h) (by have := HALL.out; rw [hkk, take_all] at this; exact this)
      have HR := Lib.hid hr; clear hr
      have hcv := conv_own (P := Try.prog) wr w.heap.size 22 9 5 u4 (decL s.data.toList) Try.underlying22 Try.underlying5 Try.underlying9 (by rw [hkk, take_all] at hown; exact hown)
      clear hkk
      go_wp2
      go_ret2
      exact ⟨ret_dec HR.out, hbel⟩
end Go.Proofs.Ythppmncndindiaa
