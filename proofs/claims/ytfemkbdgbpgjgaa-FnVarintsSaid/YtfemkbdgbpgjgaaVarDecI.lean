/- DecodeVarint, the program's: where a number ends, its value. -/
import Derived.Test.YtfemkbdgbpgjgaaVarEncI
import Derived.Lib.MinMax
import Derived.OwnWalk
namespace Go.Proofs.Ytfemkbdgbpgjgaa
open Go.RowKit Go.Lib

theorem szV_cut (l : List UInt8) (m : Nat) (h : m = l.length ∨ 6 ≤ m) : szV 6 (l.take m) = szV 6 l := by
  rcases h with rfl | h
  · rw [List.take_length]
  · have key : ∀ (k : Nat) (l : List UInt8) (m : Nat), k ≤ m → szV k (l.take m) = szV k l := by
      intro k
      induction k with
      | zero => intro l m _; simp [szV]
      | succ k ih =>
        intro l m hm
        cases l with
        | nil => simp
        | cons b r =>
          obtain ⟨m, rfl⟩ : ∃ q, m = q + 1 := ⟨m - 1, by omega⟩
          rw [List.take_succ_cons]
          unfold szV
          rw [ih r m (by omega)]
    exact key 6 l m h

set_option maxRecDepth 100000 in
set_option maxHeartbeats 1000000 in
theorem i_size13 (t : ByteArray) (w : World) (hm : t.size ≤ maxLen) :
    Calls Try.prog 50 #[.string t] w fun e w' => e = .returned (.int .i64 (szV 6 t.data.toList : Int)) ∧ Below w.heap.size w w' := by
  have hm' := hm
  unfold maxLen at hm'
  obtain ⟨m, hmin, hmt, hm6⟩ : ∃ m : Nat, min (t.size : Int) 6 = (m : Int) ∧ (m = t.size ∨ 6 ≤ m) ∧ m ≤ t.size ∧ m ≤ 6 := by
    by_cases h : t.size ≤ 6
    · exact ⟨t.size, by rw [Int.min_eq_left (by omega)], .inl rfl, by omega, by omega⟩
    · exact ⟨6, by rw [Int.min_eq_right (by omega)]; rfl, .inr (by omega), by omega, by omega⟩
  have hu : (t.extract 0 m).data.toList = t.data.toList.take m := by simp
  have hus : (t.extract 0 m).size = m := by rw [ByteArray.size_extract]; omega
  have HS : Hid (szV 6 (t.extract 0 m).data.toList = szV 6 t.data.toList) := Lib.hid (by rw [hu, szV_cut _ _ (by rw [list_len]; exact hmt)])
  clear hu hmt
  have hm60 := hm6.1
  go_enter Try.func50, Try.ntmps50
  go_wp2_with fail
  obtain ⟨u, hu⟩ : ∃ u, t.extract 0 m = u := ⟨_, rfl⟩
  rw [hu] at hus HS
  have hu6 : u.size ≤ 6 := by omega
  rw [hu]
  clear hu hus hmin hm6 hm60 hm hm'
  go_loopw [3] (fun _ wr => ∃ p : Nat, p ≤ u.size ∧ wr = w.iter u p ∧ Hid (∀ j, (hj : j < u.data.toList.length) → j < p → 128 ≤ (u.data.toList[j]).toNat))
    (fun _ wr => u.size - wr.iterPos w.heap.size)
  case atStart => exact ⟨0, Nat.zero_le _, rfl, Lib.hid (fun j _ h => by omega)⟩
  case round =>
    obtain ⟨p, hp, rfl, HA⟩ := hrel
    by_cases hlt : p < u.size
    · have hd0 := decode_le u p
      have hnx := fun ty => run_next_any (P := Try.prog) w u p ty hlt
      by_cases hb : (u[p]'hlt).toNat < 128
      · have hd := decode_ascii u p hlt hb
        have e1 : (Utf8.decode u p).1 = (u[p]'hlt).toNat := by rw [hd]
        have HR : Hid (szV 6 u.data.toList = p + 1) := Lib.hid (szV_hit p 6 _ (by omega) (by rw [list_len]; exact hlt) HA.out hb)
        have hc : ((Utf8.decode u p).1 : Int) < 128 := by omega
        have HB : Hid (Below w.heap.size w (w.iter u (p + (Utf8.decode u p).2))) := Lib.hid ((Below.refl _ _).alloc (Nat.le_refl _) _)
        clear hd e1
        go_wp2
        go_ret
        exact ⟨ret_iW (by rw [← HS.out, HR.out]; omega), HB.out⟩
      · have hd := decode_high u p hlt (by omega)
        have hb2 := decode_bytes u p hlt (by omega)
        have hc : ¬ ((Utf8.decode u p).1 : Int) < 128 := by omega
        obtain ⟨r, hr⟩ : ∃ r, Utf8.decode u p = r := ⟨_, rfl⟩
        rw [hr] at hnx hd hb2 hc hd0
        have HA2 : Hid (∀ j, (hj : j < u.data.toList.length) → j < p + r.2 → 128 ≤ (u.data.toList[j]).toNat) := Lib.hid (fun j hj h => by
          by_cases h1 : j < p
          · exact HA.out j hj h1
          · exact hb2.2 j (by rw [list_len] at hj; exact hj) (by omega) h)
        have hb3 := hb2.1
        clear hr hb2
        go_wp2
        go_roundw
        case rel => exact ⟨p + r.2, hb3, rfl, HA2⟩
        case measure => simp only [World.iterPos_iter]; omega
    · have hnx := fun ty => run_next_end (P := Try.prog) w u p ty hlt
      have HR : Hid (szV 6 u.data.toList = 0) := Lib.hid (szV_none 6 _ (fun j hj _ => HA.out j hj (by rw [list_len] at hj; omega)))
      have HB : Hid (Below w.heap.size w (w.iter u p)) := Lib.hid ((Below.refl _ _).alloc (Nat.le_refl _) _)
      go_wp2
      go_ret
      exact ⟨ret_iW (by rw [← HS.out, HR.out]; rfl), HB.out⟩

set_option maxRecDepth 100000 in
set_option maxHeartbeats 1000000 in
theorem i_value13 (t : ByteArray) (w : World) (hm : t.size ≤ 6) :
    Calls Try.prog 51 #[.string t] w fun e w' => e = .returned (.int .i64 (valV t.data.toList : Int)) ∧ w = w' := by
  have hl : t.data.toList.length = t.size := list_len t
  go_enter Try.func51, Try.ntmps51
  go_wp2_with fail
  go_loopw [3, 7] (fun n x wr => ∃ k : Nat, k ≤ t.size ∧ x = .int .i64 (k : Int) ∧ n = .int .i64 (valV (t.data.toList.take k) : Int) ∧ wr = w)
    (fun _ x _ => t.size - (intOf x).toNat)
  case atStart => exact ⟨0, Nat.zero_le _, rfl, rfl, rfl⟩
  case round =>
    obtain ⟨k, hk, rfl, rfl, rfl⟩ := hrel
    by_cases hlt : k < t.size
    · have ho := or7w t.data.toList k (by omega) (by omega)
      have hg : t.data.toList[k]'(by omega) = t[k]'hlt := rfl
      rw [hg] at ho
      have hb := (t[k]'hlt).toNat_lt
      have hbit : bits .andNot .u8 ((t[k]'hlt).toNat : Int) 128 = (((t[k]'hlt).toNat % 128 : Nat) : Int) := u8_not128 _ hb
      have k0 : (0 : Int) ≤ (k : Int) := by omega
      have k1 : (k : Int) < (t.size : Int) := by omega
      obtain ⟨V, hV⟩ : ∃ V, valV (t.data.toList.take k) = V := ⟨_, rfl⟩
      obtain ⟨V', hV'⟩ : ∃ V', valV (t.data.toList.take (k + 1)) = V' := ⟨_, rfl⟩
      rw [hV, hV'] at ho
      have HV' := Lib.hid hV'
      have HO := Lib.hid ho
      rw [hV]
      clear hg hV hV' hl ho
      go_wp2
      go_roundw
      case rel => exact ⟨k + 1, by omega, by go_num, by rw [HO.out, HV'.out], trivial⟩
      case measure => simp [intOf]; omega
    · have k1 : ¬ (k : Int) < (t.size : Int) := by omega
      have HV : Hid (valV (t.data.toList.take k) = valV t.data.toList) := Lib.hid (by rw [List.take_of_length_le (by omega)])
      obtain ⟨V, hV⟩ : ∃ V, valV (t.data.toList.take k) = V := ⟨_, rfl⟩
      rw [hV] at HV ⊢
      clear hV hl
      go_wp2
      go_ret
      exact ⟨ret_iW (by rw [HV.out]), rfl⟩

theorem getLast_at (l : List UInt8) (z : Nat) (h : 1 ≤ z) (hz : z ≤ l.length) : (l.take z).getLast? = some (l[z - 1]'(by omega)) := by
  rw [List.getLast?_eq_getElem?, List.length_take, List.getElem?_take, show min z l.length = z from by omega, if_pos (by omega), List.getElem?_eq_getElem (by omega)]
theorem ret_dV {r q : Nat × Nat × Bool} (h : r = q) : Ending.returned (dvV r) = .returned (dvV q) := by rw [h]
set_option maxRecDepth 100000 in
set_option maxHeartbeats 1000000 in
theorem i_decV (s : ByteArray) (a : Int) (w : World) (hm : s.size ≤ maxLen) (ha : (Lit.int .i64 a).wf = true) :
    Calls Try.prog 18 #[.string s, .int .i64 a] w fun e w' => e = .returned (dvV (dvZ s.data.toList a)) ∧ Below w.heap.size w w' := by
  have hm' := hm
  unfold maxLen at hm'
  by_cases h : a < 0 ∨ (s.size : Int) < a
  · have HV : Hid (dvZ s.data.toList a = (0, 0, false)) := Lib.hid (by
      rcases h with h | h
      · exact dvZ_neg _ _ h
      · exact dvZ_far _ _ (by rw [list_len]; omega))
    by_cases h1 : a < 0
    · clear h
      go_enter Try.func18, Try.ntmps18
      go_wp2
      go_ret3
      exact ⟨ret_dV (r := (0, 0, false)) HV.out.symm, Below.refl _ _⟩
    · have h2 : (s.size : Int) < a := by omega
      clear h
      go_enter Try.func18, Try.ntmps18
      go_wp2
      go_ret3
      exact ⟨ret_dV (r := (0, 0, false)) HV.out.symm, Below.refl _ _⟩
  · obtain ⟨i, rfl⟩ : ∃ i : Nat, a = (i : Int) := ⟨a.toNat, by omega⟩
    have hi : i ≤ s.size := by omega
    have i0 : (0 : Int) ≤ (i : Int) := by omega
    have i1 : (i : Int) ≤ (s.size : Int) := by omega
    have hx : (s.extract i s.size).data.toList = s.data.toList.drop i := by
      rw [ByteArray.data_extract, Array.toList_extract, List.extract_eq_take_drop, List.take_of_length_le (by rw [List.length_drop, list_len]; omega)]
    have hxs : (s.extract i s.size).size = s.size - i := by rw [ByteArray.size_extract]; omega
    have SZ := Lib.hid (fun W => i_size13 (s.extract i s.size) W (by rw [hxs]; unfold maxLen; omega))
    rw [hx] at SZ
    have hz := szV_le 6 (s.data.toList.drop i)
    rw [List.length_drop, list_len] at hz
    have HD := Lib.hid (dvZ_nat s.data.toList i)
    obtain ⟨z, hze⟩ : ∃ z, szV 6 (s.data.toList.drop i) = z := ⟨_, rfl⟩
    rw [hze] at SZ hz
    have HZ := Lib.hid hze
    have hz1 := hz.1
    have hz2 := hz.2
    have HLN : Hid (z ≤ (s.data.toList.drop i).length) := Lib.hid (by rw [List.length_drop, list_len]; omega)
    clear h hx hxs hze hz ha
    by_cases h0 : z = 0
    · have HV : Hid (dvZ s.data.toList (i : Int) = (0, 0, false)) := Lib.hid (by rw [HD.out]; exact dcV_none _ (by rw [HZ.out, h0]))
      have SZ0 : Hid (∀ W, Calls Try.prog 50 #[.string (s.extract i s.size)] W fun e w' => e = .returned (.int .i64 (0 : Int)) ∧ Below W.heap.size W w') := Lib.hid (fun W => by have := SZ.out W; rw [h0] at this; exact this)
      clear h0 SZ
      go_enter Try.func18, Try.ntmps18
      go_wp2_with fail
      refine (SZ0.out _).mono ?_
      rintro e w1 ⟨rfl, b1⟩
      have HB := Lib.hid b1
      clear b1
      go_wp2
      go_ret3
      exact ⟨ret_dV (r := (0, 0, false)) HV.out.symm, HB.out⟩
    · have z0 : ((z : Int) == 0) = false := beq_eq_false_iff_ne.2 (by omega)
      have hy : (s.extract i (i + z)).data.toList = (s.data.toList.drop i).take z := by
        simp [List.take_drop]
      have hys : (s.extract i (i + z)).size = z := by rw [ByteArray.size_extract]; omega
      have VL := Lib.hid (fun W => i_value13 (s.extract i (i + z)) W (by omega))
      rw [hy] at VL
      have hn := valV_lt ((s.data.toList.drop i).take z)
      have hn2 : valV ((s.data.toList.drop i).take z) < 128 ^ 6 := Nat.lt_of_lt_of_le hn (Nat.pow_le_pow_right (by decide) (by rw [List.length_take]; omega))
      obtain ⟨n, hne⟩ : ∃ n, valV ((s.data.toList.drop i).take z) = n := ⟨_, rfl⟩
      rw [hne] at VL hn2
      have HN := Lib.hid hne
      have hj : i + z - 1 < s.size := by omega
      have HJ : Hid (((s.data.toList.drop i).take z).getLast? = some (s[i + z - 1]'hj)) := Lib.hid (by
        rw [getLast_at _ z (by omega) HLN.out, List.getElem_drop]
        have e : i + (z - 1) = i + z - 1 := by omega
        simp only [e]
        rfl)
      have hjb := (s[i + z - 1]'hj).toNat_lt
      have HJ0 : Hid ((s[i + z - 1]'hj).toNat = 0 → s[i + z - 1]'hj = 0) := Lib.hid (fun h => UInt8.toNat_inj.1 h)
      obtain ⟨b, hbe⟩ : ∃ b, s[i + z - 1]'hj = b := ⟨_, rfl⟩
      have HBE := Lib.hid hbe
      rw [hbe] at HJ hjb HJ0
      have j0 : (0 : Int) ≤ (i : Int) + (z : Int) - 1 := by omega
      have j1 : (i : Int) + (z : Int) - 1 < (s.size : Int) := by omega
      have j2 : ((i : Int) + (z : Int) - 1).toNat = i + z - 1 := by omega
      have n2 : n < 4398046511104 := hn2
      clear hy hys hn hn2 hne hbe
      by_cases hl : 1 < z ∧ b.toNat = 0
      · have HV : Hid (dvZ s.data.toList (i : Int) = (0, 0, false)) := Lib.hid (by
          rw [HD.out]
          refine dcV_zero _ (by rw [HZ.out]; exact hl.1) ?_
          rw [HZ.out, HJ.out, HJ0.out hl.2])
        have l1 : (1 : Int) < (z : Int) := by omega
        have l2 : (b.toNat : Int) = 0 := by omega
        have l3 : (((s[i + z - 1]'hj).toNat : Int) == 0) = true := by rw [HBE.out, l2]; rfl
        clear hl h0 l2 VL
        go_enter Try.func18, Try.ntmps18
        go_wp2_with fail
        refine (SZ.out _).mono ?_
        rintro e w1 ⟨rfl, b1⟩
        have HB := Lib.hid b1
        clear b1
        go_wp2
        go_ret3
        exact ⟨ret_dV (r := (0, 0, false)) HV.out.symm, HB.out⟩
      · have HNL : Hid (1 < szV 6 (s.data.toList.drop i) → ((s.data.toList.drop i).take (szV 6 (s.data.toList.drop i))).getLast? ≠ some 0) := Lib.hid (fun h1 h2 => hl ⟨by rw [HZ.out] at h1; exact h1, by
          rw [HZ.out, HJ.out] at h2
          have : b = 0 := Option.some.inj h2
          rw [this]; rfl⟩)
        have HF : Hid (1099511627775 < n → dvZ s.data.toList (i : Int) = (0, 0, false)) := Lib.hid (fun h => by rw [HD.out]; exact dcV_far _ (by rw [HZ.out, HN.out]; exact h))
        have HG : Hid (n ≤ 1099511627775 → dvZ s.data.toList (i : Int) = (n, z, true)) := Lib.hid (fun h => by
          rw [HD.out, dcV_ok _ (by rw [HZ.out]; exact h0) HNL.out (by rw [HZ.out, HN.out]; exact h), HZ.out, HN.out])
        have p0 : (0 : Int) ≤ (i : Int) + (z : Int) := by omega
        have p1 : (i : Int) + (z : Int) ≤ (s.size : Int) := by omega
        have p2 : (i : Int) ≤ (i : Int) + (z : Int) := by omega
        have p3 : ((i : Int) + (z : Int)).toNat = i + z := by omega
        by_cases hl1 : 1 < z
        · have l1 : (1 : Int) < (z : Int) := by omega
          have l3 : (((s[i + z - 1]'hj).toNat : Int) == 0) = false := by rw [HBE.out]; exact beq_eq_false_iff_ne.2 (by omega)
          clear hl h0
          by_cases hnf : 1099511627775 < n
          · have HV := Lib.hid (HF.out hnf)
            have hnf' : (1099511627775 : Int) < (n : Int) := by omega
            clear hnf n2
            go_enter Try.func18, Try.ntmps18
            go_wp2_with fail
            refine (SZ.out _).mono ?_
            rintro e w1 ⟨rfl, b1⟩
            have HB := Lib.hid b1
            clear b1
            go_wp2_with fail
            refine (VL.out _).mono ?_
            rintro e w2 ⟨rfl, rfl⟩
            go_wp2
            go_ret3
            exact ⟨ret_dV (r := (0, 0, false)) HV.out.symm, HB.out⟩
          · have HV := Lib.hid (HG.out (by omega))
            have hnf' : ¬ (1099511627775 : Int) < (n : Int) := by omega
            clear hnf n2
            go_enter Try.func18, Try.ntmps18
            go_wp2_with fail
            refine (SZ.out _).mono ?_
            rintro e w1 ⟨rfl, b1⟩
            have HB := Lib.hid b1
            clear b1
            go_wp2_with fail
            refine (VL.out _).mono ?_
            rintro e w2 ⟨rfl, rfl⟩
            go_wp2
            go_ret3
            exact ⟨ret_dV (r := (n, z, true)) HV.out.symm, HB.out⟩
        · have l1 : ¬ (1 : Int) < (z : Int) := by omega
          have hnf : ¬ 1099511627775 < n := by
            have e : z = 1 := by omega
            have h := valV_lt ((s.data.toList.drop i).take z)
            rw [HN.out, List.length_take, e] at h
            have : n < 128 ^ 1 := Nat.lt_of_lt_of_le h (Nat.pow_le_pow_right (by decide) (by omega))
            omega
          have HV := Lib.hid (HG.out (by omega))
          have hnf' : ¬ (1099511627775 : Int) < (n : Int) := by omega
          clear hl h0 hnf n2
          go_enter Try.func18, Try.ntmps18
          go_wp2_with fail
          refine (SZ.out _).mono ?_
          rintro e w1 ⟨rfl, b1⟩
          have HB := Lib.hid b1
          clear b1
          go_wp2_with fail
          refine (VL.out _).mono ?_
          rintro e w2 ⟨rfl, rfl⟩
          go_wp2
          go_ret3
          exact ⟨ret_dV (r := (n, z, true)) HV.out.symm, HB.out⟩
end Go.Proofs.Ytfemkbdgbpgjgaa
