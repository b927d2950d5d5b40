/- The program's ParseUint: what it returns, where the library's variables that it names are as their initialisers lay them. -/
import Derived.Test.YthmllcpldgbbcaaGreatDoorShelfAtoi
import Derived.Test.YthmllcpldgbbcaaGreatDoorItoaImpl
import Derived.Test.YthmllcpldgbbcaaGreatDoorPlainA
import Derived.Lib.SmallJoins
namespace Go.Proofs.YthmllcpldgbbcaaGreatDoor
open Go.RowKit Go.Lib

/-- What ParseUint returns at the text s. -/
abbrev puE' (s : ByteArray) : Ending := .returned (.tuple #[.int .i64 ((puR s.data.toList).1 : Nat), .bool (puR s.data.toList).2])

/-- Where Atoi's answer is no number. -/
theorem atoi_no (s : ByteArray) (hlim : s.size ≤ 281474976710656) (h : ∀ v, atoiAll s.data.toList ≠ .ok v) (tp tq : TypeId) (p q : Value) (w : World)
    (hS : w.var? Tryz.prog "strconv.ErrSyntax" = some #[.iface tp p]) (hR : w.var? Tryz.prog "strconv.ErrRange" = some #[.iface tq q]) :
    Calls Tryz.prog 113 #[.string s] w fun e w' => ∃ (n : Int) (N : Nat), e = .returned (.tuple #[.int .i64 n, .iface 152 (.pointer (some ⟨N, 0, none⟩))]) ∧ Below w.heap.size w w' := by
  rcases hc : atoiAll s.data.toList with v | _ | _
  · exact absurd hc (h v)
  · exact (Any.strconv_Atoi_syntax_var Tryz.laysC172 s hlim hc tp p w hS).mono fun e w' ⟨N, he, _, _, hb⟩ => ⟨0, N, he, hb⟩
  · exact (Any.strconv_Atoi_range_var Tryz.laysC172 s hlim hc tq q w hR).mono fun e w' ⟨N, he, _, _, hb⟩ => ⟨_, N, he, hb⟩
theorem atoi_yes (s : ByteArray) (hlim : s.size ≤ 9223372036854775806) (v : Int) (h : atoiAll s.data.toList = .ok v) (w : World) :
    Calls Tryz.prog 113 #[.string s] w fun e w' => e = .returned (.tuple #[.int .i64 v, .nilIface]) ∧ Below w.heap.size w w' :=
  (Any.strconv_Atoi_ok Tryz.laysC172 s hlim v h w).mono fun e w' ⟨he, hw⟩ => ⟨he, by
    rcases hw with rfl | ⟨t, rfl⟩
    · exact Below.refl _ _
    · exact Joins.below_bytesWorld _ _ _ _ (Nat.le_refl _)⟩

set_option maxHeartbeats 400000 in
theorem i_pu (s : ByteArray) (w : World) (h : s.size ≤ 1048576) (tp tq : TypeId) (p q : Value)
    (hS : w.var? Tryz.prog "strconv.ErrSyntax" = some #[.iface tp p]) (hR : w.var? Tryz.prog "strconv.ErrRange" = some #[.iface tq q]) (htab : Lib.TabIs Tryz.prog w "internal/strconv.uint64pow10" .u64 Lib.pow10Tab) :
    Calls Tryz.prog 110 #[.string s] w fun e w' => e = puE' s ∧ Below w.heap.size w w' := by
  have HT := Lib.hid htab
  clear htab
  by_cases hok : ∃ v, atoiAll s.data.toList = .ok v
  · obtain ⟨v, hv⟩ := hok
    have HV := Lib.hid hv
    have hb := atoiAll_bounds hv
    clear hv hS hR
    by_cases hlo : v < 0
    · have hr := puR_atoi_out _ v HV.out (.inl hlo)
      have HR := Lib.hid hr; clear hr
      go_enter Tryz.func110, Tryz.ntmps110
      go_wp2_with fail
      refine (atoi_yes s (by omega) v HV.out _).mono ?_
      rintro e w1 ⟨rfl, b1⟩
      go_wp2
      all_goals go_ret2
      all_goals exact ⟨ret_pu HR.out rfl, b1⟩
    · by_cases hhi : 1000000000 < v
      · have hr := puR_atoi_out _ v HV.out (.inr hhi)
        have HR := Lib.hid hr; clear hr
        go_enter Tryz.func110, Tryz.ntmps110
        go_wp2_with fail
        refine (atoi_yes s (by omega) v HV.out _).mono ?_
        rintro e w1 ⟨rfl, b1⟩
        go_wp2
        all_goals go_ret2
        all_goals exact ⟨ret_pu HR.out rfl, b1⟩
      · obtain ⟨m, rfl⟩ := Int.eq_ofNat_of_zero_le (by omega : 0 ≤ v)
        have hit := itoa_nat m
        have HI := Lib.hid hit; clear hit
        by_cases he : decDigits m = s.data.toList
        · have hr : puR s.data.toList = (m, true) := by rw [← he]; exact puR_is m (by omega)
          have hs := bl_eq (a := ⟨(itoa (m : Int)).toArray⟩) (b := s) (by rw [HI.out]; exact he)
          have HS := Lib.hid hs
          have HR := Lib.hid hr
          clear hs hr he
          go_enter Tryz.func110, Tryz.ntmps110
          go_wp2_with fail
          refine (atoi_yes s (by omega) m HV.out _).mono ?_
          rintro e w1 ⟨rfl, b1⟩
          go_wp2_with fail
          refine (i_itoa m _ (by omega) (by omega) (pow_on HT.out b1)).mono ?_
          rintro e w2 ⟨rfl, b2⟩
          rw [HS.out]
          go_wp2
          go_ret2
          exact ⟨ret_pu HR.out rfl, b1.trans (b2.mono b1.size)⟩
        · have hr := puR_atoi_ne _ m HV.out he
          have HR := Lib.hid hr; clear hr
          have hs := bl_ne (a := ⟨(itoa (m : Int)).toArray⟩) (b := s) (by rw [HI.out]; exact he)
          obtain ⟨t, ht⟩ : ∃ t : ByteArray, ⟨(itoa (m : Int)).toArray⟩ = t := ⟨_, rfl⟩
          rw [ht] at hs
          have HS := Lib.hid ht
          clear ht he
          go_enter Tryz.func110, Tryz.ntmps110
          go_wp2_with fail
          refine (atoi_yes s (by omega) m HV.out _).mono ?_
          rintro e w1 ⟨rfl, b1⟩
          go_wp2_with fail
          refine (i_itoa m _ (by omega) (by omega) (pow_on HT.out b1)).mono ?_
          rintro e w2 ⟨rfl, b2⟩
          rw [HS.out]
          go_wp2
          go_ret2
          exact ⟨ret_pu HR.out rfl, b1.trans (b2.mono b1.size)⟩
  · have hno : ∀ v, atoiAll s.data.toList ≠ .ok v := fun v hv => hok ⟨v, hv⟩
    have hr := puR_atoi_no _ hno
    have HR := Lib.hid hr
    have HN := Lib.hid hno
    have hs := Lib.hid hS
    have hq := Lib.hid hR
    clear hr hno hok hS hR
    go_enter Tryz.func110, Tryz.ntmps110
    go_wp2_with fail
    refine (atoi_no s (by omega) HN.out tp tq p q _ hs.out hq.out).mono ?_
    rintro e w1 ⟨n, M, rfl, b1⟩
    go_wp2
    all_goals go_ret2
    all_goals exact ⟨ret_pu HR.out rfl, b1⟩
end Go.Proofs.YthmllcpldgbbcaaGreatDoor
