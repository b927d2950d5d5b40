/- DecodeVarint, the model's. -/
import Derived.Test.YtfemkbdgbpgjgaaVarEncS
import Derived.Test.YtfemkbdgbpgjgaaPlainB
import Derived.Deep.RegionHeld3
import Derived.OwnWalk
namespace Go.Proofs.Ytfemkbdgbpgjgaa
open Go.RowKit Go.Lib

theorem undrewV {B : Nat} {w w' : World} (h : Below B w.drew w') : Below B w w' := ⟨h.os, h.tape, h.output, h.size, h.block⟩
theorem ret_dW {r q : Nat × Nat × Bool} (h : r = q) : Ending.returned (dvV r) = .returned (dvV q) := by rw [h]
set_option maxRecDepth 100000 in
set_option maxHeartbeats 2000000 in
theorem s_decV (s : ByteArray) (a : Int) (w : World) (hm : s.size ≤ 140737488355328) (ha : (Lit.int .i64 a).wf = true) :
    Calls Try.prog 31 #[.string s, .int .i64 a] w fun e w' => e = .returned (dvV (dvZ s.data.toList a)) ∧ Below w.heap.size w w' := by
  by_cases h : a < 0 ∨ (s.size : Int) ≤ a
  · have HV : Hid (dvZ s.data.toList a = (0, 0, false)) := Lib.hid (by
      rcases h with h | h
      · exact dvZ_neg _ _ h
      · exact dvZ_far _ _ (by rw [list_len]; omega))
    by_cases h1 : a < 0
    · clear h
      go_enter Try.func31, Try.ntmps31
      go_wp2
      go_ret3
      exact ⟨ret_dW (r := (0, 0, false)) HV.out.symm, Below.refl _ _⟩
    · have h2 : (s.size : Int) ≤ a := by omega
      have h3 : ¬ a < (s.size : Int) := by omega
      have hwa : wrap64 a = a := by have := bounds_i64 ha; unfold wrap64; omega
      clear h ha
      go_enter Try.func31, Try.ntmps31
      go_wp2_with fail
      go_loopw [7, 8] (fun n k wr => n = .int .i64 0 ∧ k = .int .i64 0 ∧ wr = w) (fun _ k _ => 1 - (intOf k).toNat)
      case atStart => exact ⟨rfl, rfl, rfl⟩
      case round =>
        obtain ⟨rfl, rfl, rfl⟩ := hrel
        go_wp2
        go_ret3
        exact ⟨ret_dW (r := (0, 0, false)) HV.out.symm, Below.refl _ _⟩
  · obtain ⟨i, rfl⟩ : ∃ i : Nat, a = (i : Int) := ⟨a.toNat, by omega⟩
    have hi : i < s.size := by omega
    have i0 : (0 : Int) ≤ (i : Int) := by omega
    have hll : (s.data.toList.drop i).length = s.size - i := by rw [List.length_drop, list_len]
    have HD := Lib.hid (dvZ_nat s.data.toList i)
    clear h ha
    go_enter Try.func31, Try.ntmps31
    go_wp2_with fail
    go_loopw [7, 8] (fun n x wr => ∃ k : Nat, k ≤ 6 ∧ i + k ≤ s.size ∧ x = .int .i64 (k : Int) ∧ n = .int .i64 (valV ((s.data.toList.drop i).take k) : Int) ∧ wr = w ∧ Hid (∀ j, (hj : j < (s.data.toList.drop i).length) → j < k → 128 ≤ ((s.data.toList.drop i)[j]).toNat))
      (fun _ x _ => 6 - (intOf x).toNat)
    case atStart => exact ⟨0, by omega, by omega, rfl, rfl, rfl, Lib.hid (fun j _ h => by omega)⟩
    case round =>
      obtain ⟨k, hk, hik, rfl, rfl, hwr, HA⟩ := hrel
      subst hwr
      by_cases hlt : k < 6 ∧ i + k < s.size
      · obtain ⟨hl1, hl2⟩ := hlt
        have hlk : k < (s.data.toList.drop i).length := by omega
        have ho := or7w (s.data.toList.drop i) k hlk hl1
        have hg : (s.data.toList.drop i)[k] = s[i + k]'hl2 := by rw [List.getElem_drop]; rfl
        rw [hg] at ho
        have hb := (s[i + k]'hl2).toNat_lt
        have hbit : bits .and .u8 ((s[i + k]'hl2).toNat : Int) 127 = (((s[i + k]'hl2).toNat % 128 : Nat) : Int) := u8_and127 _ hb
        have k0 : (0 : Int) ≤ (k : Int) := by omega
        have k1 : (k : Int) < 6 := by omega
        have k2 : (i : Int) + (k : Int) < (s.size : Int) := by omega
        have k3 : (0 : Int) ≤ (i : Int) + (k : Int) := by omega
        obtain ⟨V, hV⟩ : ∃ V, valV ((s.data.toList.drop i).take k) = V := ⟨_, rfl⟩
        obtain ⟨V', hV'⟩ : ∃ V', valV ((s.data.toList.drop i).take (k + 1)) = V' := ⟨_, rfl⟩
        rw [hV, hV'] at ho
        have HV' := Lib.hid hV'
        have HG := Lib.hid hg
        rw [hV]
        by_cases hlow : (s[i + k]'hl2).toNat < 128
        · have hlow' : ((s[i + k]'hl2).toNat : Int) < 128 := by omega
          have HZ : Hid (szV 6 (s.data.toList.drop i) = k + 1) := Lib.hid (szV_hit k 6 _ hl1 hlk HA.out (by rw [hg]; exact hlow))
          have HO := Lib.hid ho
          have hp1 : (i : Int) + (k : Int) + 1 ≤ (s.size : Int) := by omega
          have hp2 : (i : Int) ≤ (i : Int) + (k : Int) + 1 := by omega
          have hp3 : ((i : Int) + (k : Int) + 1).toNat = i + k + 1 := by omega
          have hp4 : (0 : Int) ≤ (i : Int) + (k : Int) + 1 := by omega
          have EN := Lib.hid (fun W => s_encV (V' : Int) W)
          have hu : (s.extract i (i + k + 1)).data.toList = (s.data.toList.drop i).take (k + 1) := by simp [List.take_drop, Nat.add_assoc]
          have DS := dcV_self (s.data.toList.drop i) (by rw [HZ.out]; omega)
          rw [HZ.out, hV'] at DS
          have DV : Hid (((⟨(encV (V' : Int)).toArray⟩ : ByteArray) = s.extract i (i + k + 1) → dvZ s.data.toList (i : Int) = (V', k + 1, true)) ∧ ((⟨(encV (V' : Int)).toArray⟩ : ByteArray) ≠ s.extract i (i + k + 1) → dvZ s.data.toList (i : Int) = (0, 0, false))) := Lib.hid (by
            have hne : (s.data.toList.drop i).take (k + 1) ≠ [] := fun h => by have := congrArg List.length h; rw [List.length_take] at this; simp at this; omega
            rw [HD.out]
            constructor
            · intro h
              have h2 := congrArg (fun b : ByteArray => b.data.toList) h
              simp only [hu] at h2
              refine DS.1 ?_
              by_cases hb : V' ≤ 1099511627775
              · rw [encV_in V' hb] at h2
                exact ⟨h2, hb⟩
              · rw [encV_out _ (by omega)] at h2
                exact absurd h2.symm hne
            · intro h
              refine DS.2 (fun ⟨h1, h2⟩ => h ?_)
              apply bl_eq
              rw [hu, encV_in V' h2]
              exact h1)
          obtain ⟨T, hT⟩ : ∃ T : ByteArray, (⟨(encV (V' : Int)).toArray⟩ : ByteArray) = T := ⟨_, rfl⟩
          rw [hT] at EN DV
          clear hV hV' hg hll hu DS hT ho
          by_cases hq : T = s.extract i (i + k + 1)
          · have hd : (T.toList == (s.extract i (i + k + 1)).toList) = true := by rw [hq]; simp
            have HV := Lib.hid (DV.out.1 hq)
            have HO2 := HO.out
            clear hq DV
            go_wp2_with fail
            have q1 : IntKind.i64.wrap ((i : Int) + (k : Int)) = (i : Int) + (k : Int) := IntWalk.i64_in _ (by omega)
            have q2 : IntKind.i64.wrap ((i : Int) + (k : Int) + 1) = (i : Int) + (k : Int) + 1 := IntWalk.i64_in _ (by omega)
            go_region_held3 (fun _ => True) (first | trivial) (first | (go_at_call 30; ((with_reducible refine (EN.out _).mono ?_); rintro e w1 ⟨rfl, b1⟩)))
            all_goals
              have HB : Hid (Below wr.heap.size wr w1) := Lib.hid (by first | exact b1 | exact undrewV b1)
              clear b1 q1 q2
              go_wp2
              go_ret3
              exact ⟨ret_dW (r := (V', k + 1, true)) HV.out.symm, HB.out⟩
          · have hd := str_ne _ _ hq
            have HV := Lib.hid (DV.out.2 hq)
            have HO2 := HO.out
            clear hq DV
            go_wp2_with fail
            have q1 : IntKind.i64.wrap ((i : Int) + (k : Int)) = (i : Int) + (k : Int) := IntWalk.i64_in _ (by omega)
            have q2 : IntKind.i64.wrap ((i : Int) + (k : Int) + 1) = (i : Int) + (k : Int) + 1 := IntWalk.i64_in _ (by omega)
            go_region_held3 (fun _ => True) (first | trivial) (first | (go_at_call 30; ((with_reducible refine (EN.out _).mono ?_); rintro e w1 ⟨rfl, b1⟩)))
            all_goals
              have HB : Hid (Below wr.heap.size wr w1) := Lib.hid (by first | exact b1 | exact undrewV b1)
              clear b1 q1 q2
              go_wp2
              go_ret3
              exact ⟨ret_dW (r := (0, 0, false)) HV.out.symm, HB.out⟩
        · have hlow' : ¬ ((s[i + k]'hl2).toNat : Int) < 128 := by omega
          have HA2 : Hid (∀ j, (hj : j < (s.data.toList.drop i).length) → j < k + 1 → 128 ≤ ((s.data.toList.drop i)[j]).toNat) := Lib.hid (fun j hj h => by
            by_cases e : j = k
            · subst e
              rw [hg]
              omega
            · exact HA.out j hj (by omega))
          have HO := Lib.hid ho
          have ho2 := HO.out
          clear hV hV' hg hll
          go_wp2_with fail
          go_roundw
          case rel => exact ⟨k + 1, by omega, by omega, by go_num, by rw [HV'.out], trivial, HA2⟩
          case measure => simp [intOf]; omega
      · have HZ : Hid (szV 6 (s.data.toList.drop i) = 0) := Lib.hid (szV_none 6 _ (fun j hj h6 => HA.out j hj (by omega)))
        have HV : Hid (dvZ s.data.toList (i : Int) = (0, 0, false)) := Lib.hid (by rw [HD.out]; exact dcV_none _ HZ.out)
        have HB : Hid (Below wr.heap.size wr wr) := Lib.hid (Below.refl _ _)
        by_cases hk6 : k < 6
        · have k1 : (k : Int) < 6 := by omega
          have k2 : ¬ (i : Int) + (k : Int) < (s.size : Int) := by omega
          clear hlt hll
          go_wp2
          go_ret3
          exact ⟨ret_dW (r := (0, 0, false)) HV.out.symm, HB.out⟩
        · have k1 : ¬ (k : Int) < 6 := by omega
          clear hlt hll
          go_wp2
          go_ret3
          exact ⟨ret_dW (r := (0, 0, false)) HV.out.symm, HB.out⟩
end Go.Proofs.Ytfemkbdgbpgjgaa
