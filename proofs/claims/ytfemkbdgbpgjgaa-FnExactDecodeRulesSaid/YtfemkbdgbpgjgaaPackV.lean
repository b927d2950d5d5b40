/- UnpackInts, the model's. -/
import Derived.Test.YtfemkbdgbpgjgaaPackU
namespace Go.Proofs.Ytfemkbdgbpgjgaa
open Go.RowKit Go.Lib

set_option maxRecDepth 100000 in
set_option maxHeartbeats 1000000 in
theorem s_unI (s : ByteArray) (a : Int) (w : World) (hm : s.size ≤ 100000000) (ha : (Lit.int .i64 a).wf = true) :
    Calls Try.prog 37 #[.string s, .int .i64 a] w (UnR 3 w.heap.size (unZ s.data.toList a) w) := by
  have UL := Lib.hid (fun W => s_decV s a W (by omega) ha)
  rcases dvZ_cases s.data.toList a with e | ⟨i, n, z, rfl, e, h1, h2, h3, h4⟩
  · rw [e] at UL
    dsimp only [dvV] at UL
    try simp only [Int.natCast_zero] at UL
    have HV := Lib.hid (unZ_no s.data.toList a e)
    clear e
    go_enter Try.func37, Try.ntmps37
    go_wp2_with fail
    refine (UL.out _).mono ?_
    rintro e w1 ⟨rfl, b1⟩
    have HB := Lib.hid b1
    have hB := b1.size
    clear b1
    go_wp2_with fail
    go_loopw [8, 9, 10, 11] (fun sz ok v x wr => sz = .int .i64 0 ∧ ok = .bool false ∧ x = .int .i64 0 ∧ Below w.heap.size w wr) (fun _ _ _ x _ => 1 - (intOf x).toNat)
    case atStart => exact ⟨rfl, rfl, rfl, HB.out.alloc hB _⟩
    case round =>
      obtain ⟨rfl, rfl, rfl, hbel⟩ := hrel
      have HB2 := Lib.hid hbel
      have hB2 := hbel.size
      clear hbel
      go_wp2
      go_ret3
      exact ret_nU (r := ([], 0, false)) HV.out.symm ⟨_, rfl, World.ownsRow_made _ _ _ hB2 (by decide) (by simp), HB2.out.alloc hB2 _⟩
  · rw [list_len] at h4
    rw [e] at UL
    dsimp only [dvV] at UL
    have HD := Lib.hid e
    have hbd := (bounds_i64 ha).2
    obtain ⟨i0, hi, hz0, hz1, hz2⟩ := info_parts infoU
    have HU0 : Hid (upN s.data.toList (i + z) 0 = some ([], i + z)) := Lib.hid rfl
    clear e ha
    go_enter Try.func37, Try.ntmps37
    go_wp2_with fail
    refine (UL.out _).mono ?_
    rintro e w1 ⟨rfl, b1⟩
    have B1 := Lib.hid b1
    have hB1 := b1.size
    clear b1
    go_wp2_with fail
    go_loopw [8, 9, 10, 11] (fun sz ok v x wr => ∃ (k z' : Nat) (b : Bool) (xs : List Int), k ≤ n ∧ x = .int .i64 (k : Int) ∧ sz = .int .i64 (z' : Int) ∧ ok = .bool b ∧ z' ≤ s.size + 6 ∧ xs.length ≤ s.size + 1 ∧
        Hid ((b = true ∧ upN s.data.toList (i + z) k = some (xs, i + z')) ∨ (b = false ∧ unZ s.data.toList (i : Int) = ([], 0, false))) ∧ wr.ownsRow w.heap.size 3 1 v xs.length (intV xs) ∧ Below w.heap.size w wr)
      (fun _ _ _ x _ => n - (intOf x).toNat)
    case atStart => exact ⟨0, z, true, [], Nat.zero_le _, rfl, rfl, rfl, by omega, by simp, Lib.hid (.inl ⟨rfl, HU0.out⟩), World.ownsRow_made _ _ _ hB1 (by decide) (by simp), B1.out.alloc hB1 _⟩
    case round =>
      obtain ⟨k, z', b, xs, hk, rfl, rfl, rfl, hz', hxs, HU, hown, hbel⟩ := hrel
      have HO := Lib.hid hown
      have HB := Lib.hid hbel
      have hB := hbel.size
      clear hown hbel
      cases b with
      | false =>
        have HV : Hid (unZ s.data.toList (i : Int) = ([], 0, false)) := Lib.hid (by rcases HU.out with ⟨h, _⟩ | ⟨_, h⟩; cases h; exact h)
        clear HU HO
        by_cases hlt : k < n
        · have k1 : (k : Int) < (n : Int) := by omega
          go_wp2
          go_ret3
          exact ret_nU (r := ([], 0, false)) HV.out.symm ⟨_, rfl, World.ownsRow_made _ _ _ hB (by decide) (by simp), HB.out.alloc hB _⟩
        · have k1 : ¬ (k : Int) < (n : Int) := by omega
          go_wp2
          go_ret3
          exact ret_nU (r := ([], 0, false)) HV.out.symm ⟨_, rfl, World.ownsRow_made _ _ _ hB (by decide) (by simp), HB.out.alloc hB _⟩
      | true =>
        have HU1 : Hid (upN s.data.toList (i + z) k = some (xs, i + z')) := Lib.hid (by rcases HU.out with ⟨_, h⟩ | ⟨h, _⟩; exact h; cases h)
        have hlen := upN_len s.data.toList (i + z) k xs (i + z') HU1.out
        have hxl := Lib.hid hlen.1
        have hzs : i + z' ≤ s.size := by
          rcases hlen.2.2 with ⟨_, h⟩ | h
          · omega
          · rw [list_len] at h; exact h
        have hxk : xs.length ≤ s.size := by have := hlen.2.1; have := hlen.1; omega
        clear hlen HU
        by_cases hlt : k < n
        · have hwf : (Lit.int .i64 ((i : Int) + (z' : Int))).wf = true := WalkArith.wf_i64 (by omega)
          have DV := Lib.hid (fun W => s_decV s ((i : Int) + (z' : Int)) W (by omega) hwf)
          have e1 : dvZ s.data.toList ((i : Int) + (z' : Int)) = dcV (s.data.toList.drop (i + z')) := by rw [← Int.natCast_add, dvZ_nat]
          rw [e1] at DV
          have k0 : (0 : Int) ≤ (k : Int) := by omega
          have k1 : (k : Int) < (n : Int) := by omega
          have h63 : xs.length + 1 ≤ maxLen := by unfold maxLen; omega
          have hby : (xs.length + 1) * 8 ≤ 140737488355328 := by omega
          clear e1 hwf
          obtain ⟨v, m, b, e, hm6, HCC⟩ : ∃ v m b, dcV (s.data.toList.drop (i + z')) = (v, m, b) ∧ m ≤ 6 ∧ Hid ((b = true ∧ upN s.data.toList (i + z) (k + 1) = some (xs ++ [sgdZ (v : Int)], i + (z' + m))) ∨ (b = false ∧ unZ s.data.toList (i : Int) = ([], 0, false))) := by
            rcases dcV_cases (s.data.toList.drop (i + z')) with e | ⟨v, m, e, g1, g2, g3, g4, _⟩
            · exact ⟨0, 0, false, e, by omega, Lib.hid (.inr ⟨rfl, unZ_none _ _ _ _ HD.out (upN_far _ _ _ (upN_no _ _ _ _ _ HU1.out e) n (by omega))⟩)⟩
            · exact ⟨v, m, true, e, g3, Lib.hid (.inl ⟨rfl, by rw [upN_ok _ _ _ _ _ _ _ HU1.out e, Nat.add_assoc]⟩)⟩
          have SD := Lib.hid (fun W => s_sgd (v : Int) W)
          rw [e] at DV
          dsimp only [dvV] at DV
          obtain ⟨u, hu⟩ : ∃ u, sgdZ (v : Int) = u := ⟨_, rfl⟩
          rw [hu] at HCC SD
          clear e hu HU1
          go_wp2_with fail
          refine (DV.out _).mono ?_
          rintro e w2 ⟨rfl, b2⟩
          have HB2 := HB.out.trans (b2.mono hB)
          have HO2 := owns_below HO.out b2
          have hB2 : w.heap.size ≤ w2.heap.size := Nat.le_trans hB b2.size
          clear b2
          go_wp2_with fail
          refine (SD.out _).mono ?_
          rintro e w3 ⟨rfl, rfl⟩
          go_wp2_with (at_builtin; refine wpList_append_own _ rfl _ _ 28 rfl w.heap.size 3 i0 (.int .i64 0) 1 8 Try.underlying28 hi hz0 hz1 hz2 rfl (by decide) _ _ _ rfl (HO2.alloc _) ⟨w2.heap.size, 0, none⟩ 1 1 [.int .i64 u] rfl rfl (cell_one_new _ _ _) (fun u hu => by simp at hu; subst hu; rfl) h63 hby (by simp; omega) ?_)
          intro v' w4 hown1 hgrow _
          have R := owns_ints (l := xs ++ [u]) hown1 (by rw [intV_append]; rfl)
          have RB := below_app' HO2 HB2 hB2 hgrow
          clear hown1 hgrow HO2 HB2
          go_wp2
          go_roundw
          case rel => exact ⟨k + 1, z' + m, b, xs ++ [u], by omega, by go_num, by go_num, rfl, by omega, by rw [List.length_append]; simp; omega, HCC, R, RB⟩
          case measure => simp [intOf]; omega
        · have hkn : k = n := by omega
          have HV : Hid (unZ s.data.toList (i : Int) = (xs, z', true)) := Lib.hid (by rw [← hkn] at HD; rw [unZ_some _ _ _ _ _ _ HD.out HU1.out]; congr 2; omega)
          have k1 : ¬ (k : Int) < (n : Int) := by omega
          clear hkn HU1
          go_wp2
          go_ret3
          exact ret_nU (r := (xs, z', true)) HV.out.symm ⟨_, rfl, HO.out, HB.out⟩
end Go.Proofs.Ytfemkbdgbpgjgaa
