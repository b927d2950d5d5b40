/- The model's ParseUint: what it returns. -/
import Derived.Test.YthmllcpldgbbcaaGreatDoorFigItoa
import Derived.Test.YthmllcpldgbbcaaGreatDoorPlainA
namespace Go.Proofs.YthmllcpldgbbcaaGreatDoor
open Go.RowKit Go.Lib

/-- What ParseUint returns at the text s. -/
abbrev puE (s : ByteArray) : Ending := .returned (.tuple #[.int .i64 ((puR s.data.toList).1 : Nat), .bool (puR s.data.toList).2])

theorem s_pu_long (s : ByteArray) (w : World) (h : 10 < s.size) (hm : s.size ≤ maxLen) :
    Calls Tryz.prog 95 #[.string s] w fun e w' => e = puE s ∧ Below w.heap.size w w' := by
  have hr := puR_long s.data.toList (by rw [list_len]; exact h)
  have HR := Lib.hid hr; clear hr
  unfold maxLen at hm
  go_enter Tryz.func95, Tryz.ntmps95
  go_wp2
  go_ret2
  exact ⟨ret_pu HR.out rfl, Below.refl _ _⟩

set_option maxHeartbeats 400000 in
theorem s_pu (s : ByteArray) (w : World) (h : s.size ≤ 10) :
    Calls Tryz.prog 95 #[.string s] w fun e w' => e = puE s ∧ Below w.heap.size w w' := by
  go_enter Tryz.func95, Tryz.ntmps95
  go_wp2
  go_loop [4, 5] (fun n i => ∃ k m : Nat, k ≤ s.size ∧ i = .int .i64 (k : Int) ∧ n = .int .i64 (m : Int) ∧ decFrom 0 (s.data.toList.take k) = some m) (fun _ i => s.size - (intOf i).toNat)
  case atStart => exact ⟨0, 0, Nat.zero_le _, rfl, rfl, rfl⟩
  case round =>
    obtain ⟨k, m, hk, rfl, rfl, hdec⟩ := hrel
    have hm := dec_small hdec (by rw [List.length_take, list_len]; omega)
    have HD := Lib.hid hdec; clear hdec
    by_cases hlt : k < s.size
    · have hp : s[k].toNat < 256 := s[k].toNat_lt
      by_cases hc : 48 ≤ s[k].toNat ∧ s[k].toNat ≤ 57
      · obtain ⟨c1, c2⟩ := hc
        have hn := dec_next s k m hlt HD.out c1 c2
        have HN := Lib.hid hn; clear hn
        go_wp2
        go_round
        case rel => exact ⟨k + 1, m * 10 + (s[k].toNat - 48), by omega, by go_num, by congr 1; omega, HN.out⟩
        case measure => simp [intOf]; omega
      · have hr := puR_bad s k m hlt HD.out (digit_none _ (by omega))
        have HR := Lib.hid hr; clear hr
        by_cases c1 : s[k].toNat < 48
        · go_wp2
          all_goals go_ret2
          all_goals exact ⟨ret_pu HR.out rfl, Below.refl _ _⟩
        · have c2 : 57 < s[k].toNat := by omega
          clear hc
          go_wp2
          all_goals go_ret2
          all_goals exact ⟨ret_pu HR.out rfl, Below.refl _ _⟩
    · have hkk : k = s.size := by omega
      have hsome : decFrom 0 s.data.toList = some m := by have := HD.out; rw [hkk, take_all] at this; exact this
      have hr := puR_some _ _ hsome
      clear hkk
      by_cases h9 : m ≤ 1000000000
      · have hit := itoa_nat m
        have HI := Lib.hid hit; clear hit
        by_cases he : decDigits m = s.data.toList
        · rw [if_pos ⟨h9, he⟩] at hr
          have HR := Lib.hid hr
          have HE := Lib.hid he
          clear hr he hsome
          have hs := bl_eq (a := ⟨(itoa (m : Int)).toArray⟩) (b := s) (by rw [HI.out]; exact HE.out)
          have HS := Lib.hid hs; clear hs
          go_wp2_with fail
          refine (s_itoa _ _ (by omega) (by omega)).mono ?_
          rintro e w1 ⟨rfl, b1⟩
          rw [HS.out]
          go_wp2
          go_ret2
          exact ⟨ret_pu HR.out rfl, b1⟩
        · rw [if_neg (fun k => he k.2)] at hr
          have HR := Lib.hid hr
          have HE := Lib.hid he
          clear hr he hsome
          have hs := bl_ne (a := ⟨(itoa (m : Int)).toArray⟩) (b := s) (by rw [HI.out]; exact HE.out)
          obtain ⟨t, ht⟩ : ∃ t : ByteArray, ⟨(itoa (m : Int)).toArray⟩ = t := ⟨_, rfl⟩
          rw [ht] at hs
          have HS := Lib.hid ht; clear ht
          go_wp2_with fail
          refine (s_itoa _ _ (by omega) (by omega)).mono ?_
          rintro e w1 ⟨rfl, b1⟩
          rw [HS.out]
          go_wp2
          go_ret2
          exact ⟨ret_pu HR.out rfl, b1⟩
      · rw [if_neg (fun k => h9 k.1)] at hr
        have HR := Lib.hid hr
        clear hr hsome
        go_wp2
        go_ret2
        exact ⟨ret_pu HR.out rfl, Below.refl _ _⟩
end Go.Proofs.YthmllcpldgbbcaaGreatDoor
