/- The program's differentNames, and the library's slices.Contains at strings. -/
import Derived.Test.YtcnnfhcpkbjolaaDoorNtB
import Derived.Test.YtcnnfhcpkbjolaaDoorPlainB
import Derived.WalkSmall
namespace Go.Proofs.YtcnnfhcpkbjolaaDoor
open Go.RowKit Go.Lib

/-- The index of an equal string, or -1. -/
def IdxRes (l : List ByteArray) (x : ByteArray) (w : World) (e : Ending) (w' : World) : Prop :=
  ∃ r : Int, e = .returned (.int .i64 r) ∧ memB l x = decide (0 ≤ r) ∧ -1 ≤ r ∧ r ≤ 2000000 ∧ w = w'
set_option maxHeartbeats 1000000 in
theorem i_sidx (a : Option Addr) (c : Nat) (l : List ByteArray) (n : Nat) (hn : l.length = n) (x : ByteArray) (w : World) (hr : ReadS w a l) (hl : n ≤ 2000000) :
    Calls Tryd.prog 125 #[.slice a n c, .string x] w (IdxRes l x w) := by
  have HR := Lib.hid hr
  have HL := Lib.hid hn
  clear hr hn
  go_enter Tryd.func125, Tryd.ntmps125
  go_wp2_with fail
  go_loop [5, 8] (fun _ i => ∃ k : Nat, k ≤ n ∧ i = .int .i64 (k : Int) ∧ Hid (x ∉ l.take k)) (fun _ i => n - (RowKit.intOf i).toNat)
  case atStart => exact ⟨0, Nat.zero_le _, rfl, Lib.hid (by simp)⟩
  case round =>
    obtain ⟨k, hk, rfl, HX⟩ := hrel
    by_cases hlt : k < n
    · have hkl : k < l.length := by rw [HL.out]; exact hlt
      obtain ⟨g, rfl, c0⟩ := HR.out k hkl
      have NX := Lib.hid (not_next l x k hkl HX.out)
      have YM := Lib.hid (List.getElem_mem hkl)
      obtain ⟨y, hy⟩ : ∃ y, l[k] = y := ⟨_, rfl⟩
      rw [hy] at c0 NX YM
      have k0 : (0 : Int) ≤ (k : Int) := by omega
      have k1 : (k : Int) < (n : Int) := by omega
      clear hy hkl
      by_cases hxy : x = y
      · subst hxy
        clear NX
        go_wp2
        go_ret
        exact ⟨(k : Int), rfl, by rw [(memB_iff l x).2 YM.out, decide_eq_true k0], by omega, by omega, rfl⟩
      · have hsf := str_ne x y hxy
        have NY := Lib.hid (NX.out hxy)
        clear hxy NX
        go_wp2
        go_round
        case rel => exact ⟨k + 1, by omega, by go_num, NY⟩
        case measure => simp [RowKit.intOf]; omega
    · have HN : Hid (memB l x = false) := Lib.hid (by
        have h := HX.out
        rw [List.take_of_length_le (by rw [HL.out]; omega)] at h
        exact memB_no l x h)
      go_wp2
      go_ret
      exact ⟨-1, rfl, by rw [HN.out]; rfl, by omega, by omega, rfl⟩
set_option maxHeartbeats 1000000 in
theorem i_cont (a : Option Addr) (c : Nat) (l : List ByteArray) (n : Nat) (hn : l.length = n) (x : ByteArray) (w : World) (hr : ReadS w a l) (hl : n ≤ 2000000) :
    Calls Tryd.prog 115 #[.slice a n c, .string x] w fun e w' => e = .returned (.bool (memB l x)) ∧ w = w' := by
  have S := Lib.hid (i_sidx a c l n hn x w hr hl)
  clear hr hn
  go_enter Tryd.func115, Tryd.ntmps115
  go_wp2_with fail
  refine S.out.mono ?_
  rintro e w' ⟨r, rfl, hm, h1, h2, rfl⟩
  have HM := Lib.hid hm
  clear hm
  by_cases h0 : 0 ≤ r
  · have hd : decide (0 ≤ r) = true := decide_eq_true h0
    go_wp2
    go_ret
    exact ⟨ret_b (by rw [HM.out, decide_eq_true h0]), rfl⟩
  · have hd : decide (0 ≤ r) = false := decide_eq_false h0
    go_wp2
    go_ret
    exact ⟨ret_b (by rw [HM.out, decide_eq_false (by omega)]), rfl⟩
set_option maxRecDepth 100000 in
set_option maxHeartbeats 1000000 in
theorem i_diff (a : Option Addr) (c : Nat) (l : List ByteArray) (w : World) (hr : ReadS w a l) (hl : l.length ≤ 2000000) (hc : l.length ≤ c) (hc2 : c ≤ maxLen) (hz : ∀ s ∈ l, s.size ≤ maxLen) :
    Calls Tryd.prog 123 #[.slice a l.length c] w fun e w' => e = .returned (.bool (diffB l)) ∧ w = w' := by
  have HR := Lib.hid hr
  have HZ := Lib.hid hz
  unfold maxLen at hc2
  clear hr hz
  go_enter Tryd.func123, Tryd.ntmps123
  go_wp2_with fail
  go_loop [3, 4, 7] (fun _ _ i => ∃ k : Nat, k ≤ l.length ∧ i = .int .i64 (k : Int) ∧ Hid (diffB (l.take k) = true)) (fun _ _ i => l.length - (RowKit.intOf i).toNat)
  case atStart => exact ⟨0, Nat.zero_le _, rfl, Lib.hid rfl⟩
  case round =>
    obtain ⟨k, hk, rfl, HD⟩ := hrel
    by_cases hlt : k < l.length
    · obtain ⟨g, rfl, c0⟩ := HR.out k hlt
      have NX := Lib.hid (diffB_next l k hlt HD.out)
      have BD := Lib.hid (diffB_bad l k hlt)
      have hsz := HZ.out _ (List.getElem_mem hlt)
      have hln : (l.take k).length = k := by rw [List.length_take]; omega
      have HC := Lib.hid (fun x => i_cont (some ⟨g, 0, none⟩) c (l.take k) k hln x w (HR.out.take k) (by omega))
      obtain ⟨y, hy⟩ : ∃ y, l[k] = y := ⟨_, rfl⟩
      rw [hy] at c0 NX BD hsz
      have HN := Lib.hid (i_name y w hsz)
      have k0 : (0 : Int) ≤ (k : Int) := by omega
      have k1 : (k : Int) < (l.length : Int) := by omega
      have k2 : (k : Int) ≤ (c : Int) := by omega
      have k3 : k ≤ c := by omega
      clear hy hln hsz
      cases hb : nameB y with
      | false =>
        have HV := Lib.hid (BD.out (.inl hb))
        rw [hb] at HN
        clear hb NX BD
        go_wp2_with fail
        refine HN.out.mono ?_
        rintro e w' ⟨rfl, rfl⟩
        go_wp2
        go_ret
        exact ⟨ret_b HV.out.symm, rfl⟩
      | true =>
        rw [hb] at HN
        cases hm : memB (l.take k) y with
        | true =>
          have HV := Lib.hid (BD.out (.inr ((memB_iff _ _).1 hm)))
          have HCy := Lib.hid (hm ▸ HC.out y)
          clear hb hm NX BD
          go_wp2_with fail
          refine HN.out.mono ?_
          rintro e w' ⟨rfl, rfl⟩
          go_wp2_with fail
          refine HCy.out.mono ?_
          rintro e w' ⟨rfl, rfl⟩
          go_wp2
          go_ret
          exact ⟨ret_b HV.out.symm, rfl⟩
        | false =>
          have HY := Lib.hid (NX.out hb (fun h => by rw [(memB_iff _ _).2 h] at hm; cases hm))
          have HCy := Lib.hid (hm ▸ HC.out y)
          clear hb hm NX BD
          go_wp2_with fail
          refine HN.out.mono ?_
          rintro e w' ⟨rfl, rfl⟩
          go_wp2_with fail
          refine HCy.out.mono ?_
          rintro e w' ⟨rfl, rfl⟩
          go_wp2
          go_round
          case rel => exact ⟨k + 1, by omega, by go_num, HY⟩
          case measure => simp [RowKit.intOf]; omega
    · have HV : Hid (diffB l = true) := Lib.hid (by
        have h := HD.out
        rwa [List.take_of_length_le (by omega)] at h)
      go_wp2
      go_ret
      exact ⟨ret_b HV.out.symm, rfl⟩
end Go.Proofs.YtcnnfhcpkbjolaaDoor
