/- PackInts, the model's and the program's. -/
import Derived.Test.YtfemkbdgbpgjgaaVarTxt
namespace Go.Proofs.Ytfemkbdgbpgjgaa
open Go.RowKit Go.Lib

set_option maxRecDepth 100000 in
set_option maxHeartbeats 1000000 in
theorem s_pkI (a : Option Addr) (cap : Nat) (l : List Int) (w : World) (hl : l.length ≤ 8000000) (hr : ReadI w a l) :
    Calls Try.prog 34 #[.slice a l.length cap] w fun e w' => e = .returned (.string ⟨(pkZ l).toArray⟩) ∧ Below w.heap.size w w' := by
  have HR := Lib.hid hr
  have E0 := Lib.hid (fun W => s_encV (l.length : Int) W)
  rw [encV_in l.length (by omega)] at E0
  obtain ⟨m, hm⟩ : ∃ m, l.length = m := ⟨_, rfl⟩
  rw [hm] at E0 hl ⊢
  have HM := Lib.hid hm
  have HN0 := Lib.hid (pkB_nil m)
  obtain ⟨T0, hT0⟩ : ∃ T : ByteArray, (⟨(vl m).toArray⟩ : ByteArray) = T := ⟨_, rfl⟩
  rw [hT0] at E0
  have HT0 := Lib.hid hT0
  clear hr hm hT0
  go_enter Try.func34, Try.ntmps34
  go_wp2_with fail
  refine (E0.out _).mono ?_
  rintro e w1 ⟨rfl, b1⟩
  have B1 := Lib.hid b1
  clear b1
  go_wp2_with fail
  go_loopw [3, 4] (fun s x wr => ∃ (k : Nat) (T : ByteArray), k ≤ m ∧ x = .int .i64 (k : Int) ∧ s = .string T ∧ Hid (T = ⟨(pkB m (l.take k)).toArray⟩) ∧ Hid (okPk (l.take k) = true) ∧ Below w.heap.size w wr)
    (fun _ x _ => m - (intOf x).toNat)
  case atStart => exact ⟨0, T0, Nat.zero_le _, rfl, rfl, Lib.hid (by rw [← HT0.out, List.take_zero, HN0.out]), Lib.hid (by rw [List.take_zero]; rfl), B1.out⟩
  case round =>
    obtain ⟨k, T, hk, rfl, rfl, HT, HOK, hbel⟩ := hrel
    have HB := Lib.hid hbel
    have hB := hbel.size
    by_cases hlt : k < m
    · have hkl : k < l.length := by rw [HM.out]; exact hlt
      obtain ⟨g, rfl, hg, c0⟩ := (HR.out.below hbel) k hkl
      have hsb := sgl_bd l[k]
      have hv := pkB_take m l k hkl
      have hno := fun h => okPk_no l k hkl h
      have hyes := fun h => okPk_take l k hkl HOK.out h
      have hTs : T.size ≤ 6 + 6 * m := by
        have h := congrArg ByteArray.size HT.out
        have h2 := pkB_len m (l.take k) (by omega)
        have h3 : (⟨(pkB m (l.take k)).toArray⟩ : ByteArray).size = (pkB m (l.take k)).length := by show (pkB m (l.take k)).toArray.size = _; simp
        rw [h, h3]
        rw [List.length_take] at h2
        omega
      obtain ⟨v, hve⟩ : ∃ v, l[k] = v := ⟨_, rfl⟩
      rw [hve] at c0 hsb hv hno hyes
      have SG := Lib.hid (fun W => s_sgl v W)
      obtain ⟨u, hu⟩ : ∃ u, sglZ v = u := ⟨_, rfl⟩
      rw [hu] at hsb hv hno hyes SG
      have HV := Lib.hid hv
      have HNO := Lib.hid hno
      have HYES := Lib.hid hyes
      have k0 : (0 : Int) ≤ (k : Int) := by omega
      have k1 : (k : Int) < (m : Int) := by omega
      clear hve hu hv hno hyes hbel
      by_cases hneg : u < 0
      · have HP := Lib.hid (HNO.out hneg)
        go_wp2_with fail
        refine (SG.out _).mono ?_
        rintro e w2 ⟨rfl, rfl⟩
        go_wp2
        go_ret
        rw [HP.out]
        exact ⟨rfl, HB.out⟩
      · have u0 : 0 ≤ u := by omega
        have HOK2 := Lib.hid (HYES.out u0)
        have EN := Lib.hid (fun W => s_encV u W)
        have he : encV u = vl u.toNat := by unfold encV; rw [if_pos (by omega)]
        rw [he] at EN
        have hl6 := vl_len6 u.toNat (by omega)
        obtain ⟨U, hU⟩ : ∃ U : ByteArray, (⟨(vl u.toNat).toArray⟩ : ByteArray) = U := ⟨_, rfl⟩
        rw [hU] at EN
        have hUs : U.size ≤ 6 := by rw [← hU]; exact hl6
        have HT2 : Hid (T ++ U = ⟨(pkB m (l.take (k + 1))).toArray⟩) := Lib.hid (by rw [HT.out, ← hU, cat_arr, HV.out])
        clear hU hl6 he
        go_wp2_with fail
        refine (SG.out _).mono ?_
        rintro e w2 ⟨rfl, rfl⟩
        go_wp2_with fail
        refine (SG.out _).mono ?_
        rintro e w2 ⟨rfl, rfl⟩
        go_wp2_with fail
        refine (EN.out _).mono ?_
        rintro e w2 ⟨rfl, b2⟩
        have HB2 := Lib.hid (HB.out.trans (b2.mono hB))
        clear b2
        go_wp2
        go_roundw
        case rel => exact ⟨k + 1, T ++ U, by omega, by go_num, rfl, HT2, HOK2, HB2.out⟩
        case measure => simp [intOf]; omega
    · have hkm : k = m := by omega
      have HP : Hid (T = ⟨(pkZ l).toArray⟩) := Lib.hid (by
        have e : l.take k = l := List.take_of_length_le (by rw [HM.out]; omega)
        have h1 := HT.out
        have h2 := HOK.out
        rw [e] at h1 h2
        rw [h1, pkZ_yes l h2, HM.out])
      have k1 : ¬ (k : Int) < (m : Int) := by omega
      clear hkm hbel
      go_wp2
      go_ret
      exact ⟨ret_sT HP.out, HB.out⟩

set_option maxRecDepth 100000 in
set_option maxHeartbeats 1000000 in
theorem i_pkI (a : Option Addr) (cap : Nat) (l : List Int) (w : World) (hl : l.length ≤ 8000000) (hr : ReadI w a l) :
    Calls Try.prog 19 #[.slice a l.length cap] w fun e w' => e = .returned (.string ⟨(pkZ l).toArray⟩) ∧ Below w.heap.size w w' := by
  have HR := Lib.hid hr
  obtain ⟨m, hm⟩ : ∃ m, l.length = m := ⟨_, rfl⟩
  have E0 := Lib.hid (fun W => i_appV (.slice none 0 0) [] m W.heap.size W (World.ownsRow_nil _ _ _ _) (by simp) (by omega) (Nat.le_refl _))
  rw [hm] at hl ⊢
  rw [List.nil_append] at E0
  have HM := Lib.hid hm
  have HN0 := Lib.hid (pkB_nil m)
  clear hr hm
  go_enter Try.func19, Try.ntmps19
  go_wp2_with fail
  refine (E0.out _).mono ?_
  rintro e w1 ⟨v1, rfl, o1, b1⟩
  have B1 := Lib.hid b1
  have O1 := Lib.hid o1
  clear b1 o1
  go_wp2_with fail
  go_loopw [3, 12] (fun s x wr => ∃ k : Nat, k ≤ m ∧ x = .int .i64 (k : Int) ∧ wr.ownsRow w.heap.size 5 1 s (pkB m (l.take k)).length (byteCells (pkB m (l.take k))) ∧ Hid (okPk (l.take k) = true) ∧ Below w.heap.size w wr)
    (fun _ x _ => m - (intOf x).toNat)
  case atStart => exact ⟨0, Nat.zero_le _, rfl, by rw [List.take_zero, HN0.out]; exact O1.out, Lib.hid (by rw [List.take_zero]; rfl), B1.out⟩
  case round =>
    obtain ⟨k, hk, rfl, hown, HOK, hbel⟩ := hrel
    have HB := Lib.hid hbel
    have hB := hbel.size
    have HO := Lib.hid hown
    have h2 := pkB_len m (l.take k) (by omega)
    have hLl : (pkB m (l.take k)).length ≤ 1000000000 := by rw [List.length_take] at h2; omega
    clear h2 hown
    by_cases hlt : k < m
    · have hkl : k < l.length := by rw [HM.out]; exact hlt
      obtain ⟨g, rfl, hg, c0⟩ := (HR.out.below hbel) k hkl
      have hsb := sgl_bd l[k]
      have hv := pkB_take m l k hkl
      have hno := fun h => okPk_no l k hkl h
      have hyes := fun h => okPk_take l k hkl HOK.out h
      obtain ⟨v, hve⟩ : ∃ v, l[k] = v := ⟨_, rfl⟩
      rw [hve] at c0 hsb hv hno hyes
      have SG := Lib.hid (fun W => i_sgl v W)
      obtain ⟨u, hu⟩ : ∃ u, sglZ v = u := ⟨_, rfl⟩
      rw [hu] at hsb hv hno hyes SG
      have HV := Lib.hid hv
      have HNO := Lib.hid hno
      have HYES := Lib.hid hyes
      have k0 : (0 : Int) ≤ (k : Int) := by omega
      have k1 : (k : Int) < (m : Int) := by omega
      obtain ⟨L, hL⟩ : ∃ L, pkB m (l.take k) = L := ⟨_, rfl⟩
      rw [hL] at HO hLl HV
      clear hve hu hv hno hyes hbel hL
      by_cases hneg : u < 0
      · have HP := Lib.hid (HNO.out hneg)
        clear HO
        go_wp2_with fail
        refine (SG.out _).mono ?_
        rintro e w2 ⟨rfl, rfl⟩
        go_wp2
        go_ret
        rw [HP.out]
        exact ⟨rfl, HB.out⟩
      · have u0 : 0 ≤ u := by omega
        have HOK2 := Lib.hid (HYES.out u0)
        obtain ⟨n, rfl⟩ : ∃ n : Nat, u = (n : Int) := ⟨u.toNat, by omega⟩
        have AP := Lib.hid (fun W (hW : W.ownsRow w.heap.size 5 1 u3 L.length (byteCells L)) hs => i_appV u3 L n w.heap.size W hW hLl (by omega) hs)
        rw [Int.toNat_natCast] at HV
        rw [← HV.out] at AP
        go_wp2_with fail
        refine (SG.out _).mono ?_
        rintro e w2 ⟨rfl, rfl⟩
        go_wp2_with fail
        refine (AP.out _ HO.out hB).mono ?_
        rintro e w2 ⟨v2, rfl, o2, b2⟩
        have O2 := Lib.hid o2
        have HB2 := Lib.hid (HB.out.trans b2)
        clear b2 o2 AP
        go_wp2
        go_roundw
        case rel => exact ⟨k + 1, by omega, by go_num, O2.out, HOK2, HB2.out⟩
        case measure => simp [intOf]; omega
    · have hkm : k = m := by omega
      have e : l.take k = l := List.take_of_length_le (by rw [HM.out]; omega)
      have h1 := HO.out
      have h2 := HOK.out
      rw [e] at h1 h2
      have HP : Hid (pkB m l = pkZ l) := Lib.hid (by rw [pkZ_yes l h2, HM.out])
      rw [HP.out] at h1
      have hcv := conv_own (P := Try.prog) wr w.heap.size 22 9 5 _ (pkZ l) Try.underlying22 Try.underlying5 Try.underlying9 h1
      have k1 : ¬ (k : Int) < (m : Int) := by omega
      clear hkm hbel e h1 h2 HO
      go_wp2
      go_ret
      exact ⟨rfl, HB.out⟩
end Go.Proofs.Ytfemkbdgbpgjgaa
