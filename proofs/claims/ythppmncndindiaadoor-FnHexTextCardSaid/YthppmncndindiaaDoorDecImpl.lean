/- The program's DecodeHex: what it returns. -/
import Derived.Test.YthppmncndindiaaDoorRows
import Derived.Test.YthppmncndindiaaDoorDecPlain
import Derived.Outline
import Derived.Maps.AppendAt
import Derived.Lib.Hide
namespace Go.Proofs.YthppmncndindiaaDoor
open Go.RowKit Go.Lib

theorem i_hv (n : Nat) (w : World) (h : n < 256) (hv : 0 ≤ hvI n) : Calls Tryd.prog 27 #[.int .u8 (n : Int)] w fun e w' => e = .returned (.tuple #[.int .u8 (hvI n), .bool true]) ∧ w = w' := by
  have HV := Lib.hid hv; clear hv
  by_cases h1 : 48 ≤ n ∧ n ≤ 57
  · obtain ⟨h2, h3⟩ := h1
    go_enter Tryd.func27, Tryd.ntmps27
    go_wp2
    go_ret2
    exact ⟨ret_hv (by unfold hvI; omega), rfl⟩
  · by_cases h4 : 97 ≤ n ∧ n ≤ 102
    · obtain ⟨h2, h3⟩ := h4
      have h5 : ¬ n ≤ 57 := by omega
      go_enter Tryd.func27, Tryd.ntmps27
      go_wp2
      go_ret2
      exact ⟨ret_hv (by unfold hvI; omega), rfl⟩
    · exfalso
      have := HV.out
      unfold hvI at this
      rw [if_neg h1, if_neg h4] at this
      omega
theorem i_hv_no (n : Nat) (w : World) (h : n < 256) (hv : hvI n < 0) : Calls Tryd.prog 27 #[.int .u8 (n : Int)] w fun e w' => e = .returned (.tuple #[.int .u8 0, .bool false]) ∧ w = w' := by
  have h1 : ¬ (48 ≤ n ∧ n ≤ 57) := fun k => by unfold hvI at hv; rw [if_pos k] at hv; omega
  have h2 : ¬ (97 ≤ n ∧ n ≤ 102) := fun k => by unfold hvI at hv; rw [if_neg h1, if_pos k] at hv; omega
  clear hv
  go_enter Tryd.func27, Tryd.ntmps27
  go_wp2
  all_goals go_ret2
  all_goals exact ⟨rfl, rfl⟩

theorem infoE : (Tryd.prog.info? 5).map (fun i => (i.zero, i.size, i.bytes)) = some (some (.int .u8 0), 1, 1) := by kernel_rfl

theorem i_dec_no (s : ByteArray) (w : World) (hm : s.size ≤ maxLen) (h : ¬ (s.size % 2 = 0 ∧ s.size ≤ 40000)) :
    Calls Tryd.prog 12 #[.string s] w fun e w' => e = .returned (.tuple #[.string ⟨#[]⟩, .bool false]) ∧ w' = w := by
  unfold maxLen at hm
  by_cases h1 : 40000 < s.size
  · go_enter Tryd.func12, Tryd.ntmps12
    go_wp2
    all_goals go_ret2
    all_goals exact ⟨rfl, rfl⟩
  · have h2 : ((s.size : Int) % 2 != 0) = true := by rw [bne_iff_ne]; omega
    go_enter Tryd.func12, Tryd.ntmps12
    go_wp2
    go_ret2
    exact ⟨rfl, rfl⟩

set_option maxHeartbeats 400000 in
theorem i_dec (s : ByteArray) (w : World) (h0 : s.size % 2 = 0) (h : s.size ≤ 40000) :
    Calls Tryd.prog 12 #[.string s] w fun e w' => e = .returned (.tuple #[.string ⟨(decR s.data.toList).1.toArray⟩, .bool (decR s.data.toList).2]) ∧ Below w.heap.size w w' := by
  obtain ⟨i0, hi, hz0, hz1, hz2⟩ := info_parts infoE
  have h2 : ((s.size : Int) % 2 != 0) = false := by rw [bne_eq_false_iff_eq]; omega
  go_enter Tryd.func12, Tryd.ntmps12
  go_wp2_with (at_make; refine wpList_make_own _ rfl _ _ 22 rfl w.heap.size 5 i0 _ 1 Tryd.underlying22 hi hz0 hz1 _ _ _ (s.size / 2) rfl rfl (by omega) ?c1 ?c2 ?c3 ?_)
  case c1 => rw [hz2]; omega
  case c2 => unfold maxLen; omega
  case c3 => exact Nat.le_refl _
  intro w1 hown1 hgr1
  have hbel1 := (Below.refl w.heap.size w).grown hgr1 (Nat.le_refl _) (fun k hk => by cases hk)
  clear hgr1 h2
  go_wp2
  go_loopw [4, 5, 6, 7, 8, 9] (fun v i _ _ _ _ wr => ∃ k : Nat, k ≤ s.size ∧ k % 2 = 0 ∧ i = .int .i64 k ∧ (s.data.toList.take k).all hvOk = true ∧ wr.ownsRow w.heap.size 5 1 v (decL (s.data.toList.take k)).length (byteCells (decL (s.data.toList.take k))) ∧ Below w.heap.size w wr)
    (fun _ i _ _ _ _ _ => s.size - (intOf i).toNat)
  case atStart => exact ⟨0, Nat.zero_le _, rfl, rfl, rfl, hown1, hbel1⟩
  case round =>
    obtain ⟨k, hk, hke, rfl, hall, hown, hbel⟩ := hrel
    have HALL := Lib.hid hall; clear hall
    have HKE := Lib.hid hke; clear hke
    by_cases hlt : k < s.size
    · have hlt1 : k + 1 < s.size := by have := HKE.out; omega
      have hp : s[k].toNat < 256 := s[k].toNat_lt
      have hp1 : s[k + 1].toNat < 256 := s[k + 1].toNat_lt
      have b1 := hvI_le s[k].toNat
      have b2 := hvI_le s[k + 1].toNat
      by_cases ha : hvI s[k].toNat < 0
      · have hr := decR_bad s k hlt ha
        have HR := Lib.hid hr; clear hr
        go_wp2_with fail
        refine (i_hv_no _ _ hp ha).mono ?_
        rintro e w' ⟨rfl, rfl⟩
        by_cases hb : hvI s[k + 1].toNat < 0
        · go_wp2_with fail
          refine (i_hv_no _ _ hp1 hb).mono ?_
          rintro e w' ⟨rfl, rfl⟩
          go_wp2
          go_ret2
          exact ⟨ret_dec HR.out, hbel⟩
        · go_wp2_with fail
          refine (i_hv _ _ hp1 (by omega)).mono ?_
          rintro e w' ⟨rfl, rfl⟩
          go_wp2
          go_ret2
          exact ⟨ret_dec HR.out, hbel⟩
      · by_cases hb : hvI s[k + 1].toNat < 0
        · have hr := decR_bad s (k + 1) hlt1 hb
          have HR := Lib.hid hr; clear hr
          go_wp2_with fail
          refine (i_hv _ _ hp (by omega)).mono ?_
          rintro e w' ⟨rfl, rfl⟩
          go_wp2_with fail
          refine (i_hv_no _ _ hp1 hb).mono ?_
          rintro e w' ⟨rfl, rfl⟩
          go_wp2
          go_ret2
          exact ⟨ret_dec HR.out, hbel⟩
        · have hpt := pairB_toNat s[k] s[k + 1] (by omega) (by omega)
          have HPT := Lib.hid hpt; clear hpt
          have hT : decL (s.data.toList.take (k + 2)) = decL (s.data.toList.take k) ++ [pairB s[k] s[k + 1]] := by
            rw [take_two s k hlt1, decL_append _ _ _ (by rw [List.length_take, list_len]; have := HKE.out; omega)]
          have HT := Lib.hid hT; clear hT
          have hA : (s.data.toList.take (k + 2)).all hvOk = true := by
            rw [take_two s k hlt1, List.all_append, HALL.out]; simp [hvOk]; omega
          have HA := Lib.hid hA; clear hA
          have hlen := decL_length (s.data.toList.take k)
          have hB0 := hbel.size
          have hlt40 : (s.data.toList.take k).length ≤ 40000 := by rw [List.length_take, list_len]; omega
          go_wp2_with fail
          refine (i_hv _ _ hp (by omega)).mono ?_
          rintro e w' ⟨rfl, rfl⟩
          go_wp2_with fail
          refine (i_hv _ _ hp1 (by omega)).mono ?_
          rintro e w' ⟨rfl, rfl⟩
          have qor := or_nib (hvI s[k].toNat) (hvI s[k + 1].toNat) (by omega) (by omega) (by omega) (by omega)
          go_wp2_with (at_builtin; refine wpList_append_own _ rfl _ _ 22 rfl w.heap.size 5 i0 (.int .u8 0) 1 1 Tryd.underlying22 hi hz0 hz1 hz2 rfl (by decide) _ _ _ rfl (hown.alloc _) ⟨wr.heap.size, 0, none⟩ 1 1 [.int .u8 (16 * hvI s[k].toNat + hvI s[k + 1].toNat)] rfl rfl ?d1 ?d2 ?d3 ?d4 ?d5 ?_)
          case d1 => exact cell_one_new _ _ _
          case d2 => intro u hu; simp at hu; subst hu; rfl
          case d3 => unfold maxLen; omega
          case d4 => omega
          case d5 => simp; omega
          intro v' w1 hown1 hgrow _
          have R := owns_cast (l := decL (s.data.toList.take (k + 2))) hown1 (by rw [HT.out, byteCells_append]; simp [byteCells, HPT.out])
          have RB := below_app' hown hbel hB0 hgrow
          have HKE2 : Hid ((k + 2) % 2 = 0) := Lib.hid (by have := HKE.out; omega)
          clear qor hown1 hgrow hown hbel HT HPT HALL
          go_wp2
          go_roundw
          case rel => exact ⟨k + 2, by omega, HKE2.out, by go_num, HA.out, R, RB⟩
          case measure => simp [intOf]; omega
    · have hkk : k = s.size := by omega
      have hr := decR_yes s.data.toList (by rw [list_len]; exact h0) (by rw [list_len]; exact h) (by have := HALL.out; rw [hkk, take_all] at this; exact this)
      have HR := Lib.hid hr; clear hr
      have hcv := conv_own (P := Tryd.prog) wr w.heap.size 22 9 5 u4 (decL s.data.toList) Tryd.underlying22 Tryd.underlying5 Tryd.underlying9 (by rw [hkk, take_all] at hown; exact hown)
      clear hkk
      go_wp2
      go_ret2
      exact ⟨ret_dec HR.out, hbel⟩
end Go.Proofs.YthppmncndindiaaDoor
