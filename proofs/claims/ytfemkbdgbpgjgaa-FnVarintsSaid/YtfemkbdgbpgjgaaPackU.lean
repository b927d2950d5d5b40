/- UnpackInts, the program's. -/
import Derived.Test.YtfemkbdgbpgjgaaVarTxt
import Derived.Test.YtfemkbdgbpgjgaaItmPlain
import Derived.Test.YtfemkbdgbpgjgaaMakeRowN
namespace Go.Proofs.Ytfemkbdgbpgjgaa
open Go.RowKit Go.Lib

/-- What UnpackInts returns: numbers in a row of their own from block B on, the number of bytes, and whether there are any. -/
def UnR (T B : Nat) (r : List Int × Nat × Bool) (w : World) (e : Ending) (w' : World) : Prop :=
  ∃ v, e = .returned (.tuple #[v, .int .i64 (r.2.1 : Int), .bool r.2.2]) ∧ w'.ownsRow B T 1 v r.1.length (intV r.1) ∧ Below w.heap.size w w'
theorem int_put (xs : List Int) (y : Value) (R : List Value) (v : Int) (k : Nat) (h : xs.length = k) : (intV xs ++ y :: R).set k (.int .i64 v) = intV (xs ++ [v]) ++ R := by
  have hl : (intV xs).length = k := by rw [intV_length, h]
  rw [List.set_append_right _ _ (by omega), hl, Nat.sub_self, intV_append, List.append_assoc]
  rfl
theorem infoU : (Try.prog.info? 3).map (fun i => (i.zero, i.size, i.bytes)) = some (some (.int .i64 0), 1, 8) := by kernel_rfl
theorem ret_nU {r q : List Int × Nat × Bool} (h : r = q) {T B : Nat} {w : World} {e : Ending} {w' : World} (hu : UnR T B r w e w') : UnR T B q w e w' := h ▸ hu
set_option maxRecDepth 100000 in
set_option maxHeartbeats 1000000 in
theorem i_unI (s : ByteArray) (a : Int) (w : World) (hm : s.size ≤ 100000000) (ha : (Lit.int .i64 a).wf = true) :
    Calls Try.prog 20 #[.string s, .int .i64 a] w (UnR 3 w.heap.size (unZ s.data.toList a) w) := by
  have UL := Lib.hid (fun W => i_unL s a W (by omega) ha)
  rcases ulZ_cases s.data.toList a with ⟨e, _, hv⟩ | ⟨i, n, z, rfl, hd, e, h1, h2, h3, _⟩
  · rw [e] at UL
    dsimp only [dvV] at UL
    try simp only [Int.natCast_zero] at UL
    have HV := Lib.hid hv
    clear e hv
    go_enter Try.func20, Try.ntmps20
    go_wp2_with fail
    refine (UL.out _).mono ?_
    rintro e w1 ⟨rfl, b1⟩
    have HB := Lib.hid b1
    clear b1
    go_wp2
    go_ret3
    exact ret_nU (r := ([], 0, false)) HV.out.symm ⟨_, rfl, World.ownsRow_nil _ _ _ _, HB.out⟩
  · rw [e] at UL
    dsimp only [dvV] at UL
    rw [list_len] at h3
    have HD := Lib.hid hd
    have hbd := (bounds_i64 ha).2
    obtain ⟨i0, hi, hz0, hz1, hz2⟩ := info_parts infoU
    have hmk := fun W => run_make_rowN (P := Try.prog) 28 3 i0 _ 1 8 Try.underlying28 hi hz0 hz1 hz2 .i64 .i64 n n (Nat.le_refl _) (by omega) (by omega) W
    obtain ⟨cs, hcs⟩ : ∃ cs, madeCells (Value.int .i64 0).cells (n * 1) = cs := ⟨_, rfl⟩
    have hcsz : cs.size = n * 1 := by rw [← hcs, size_madeCells]
    rw [hcs] at hmk
    clear hcs hi hz0 hz1 hz2
    have HZ := Lib.hid hcsz
    have HU0 : Hid (upN s.data.toList (i + z) 0 = some ([], i + z)) := Lib.hid rfl
    clear hcsz e hd ha
    go_enter Try.func20, Try.ntmps20
    go_wp2_with fail
    refine (UL.out _).mono ?_
    rintro e w1 ⟨rfl, b1⟩
    have B1 := Lib.hid b1
    have hB1 := b1.size
    clear b1
    go_wp2_with fail
    clear hmk
    have O1 : Hid ((w1.alloc (.cells cs 3)).ownsRow w.heap.size 3 1 (.slice (some ⟨w1.heap.size, 0, none⟩) n n) n cs.toList) := Lib.hid (World.ownsRow_lit _ _ _ hB1 (by unfold maxLen; omega) HZ.out)
    go_loopw [8, 28] (fun sz x wr => ∃ (k z' : Nat) (xs : List Int) (R : List Value), k ≤ n ∧ x = .int .i64 (k : Int) ∧ sz = .int .i64 (z' : Int) ∧ Hid (upN s.data.toList (i + z) k = some (xs, i + z')) ∧ R.length = n - k ∧ wr.ownsRow w.heap.size 3 1 (.slice (some ⟨w1.heap.size, 0, none⟩) n n) n (intV xs ++ R) ∧ Below w.heap.size w wr)
      (fun _ x _ => n - (intOf x).toNat)
    case atStart => exact ⟨0, z, [], cs.toList, Nat.zero_le _, rfl, rfl, HU0, by have := HZ.out; simpa using this, O1.out, B1.out.alloc hB1 _⟩
    case round =>
      obtain ⟨k, z', xs, R, hk, rfl, rfl, HU, hR, hown, hbel⟩ := hrel
      have HO := Lib.hid hown
      have HB := Lib.hid hbel
      have hB := hbel.size
      have hgl : w1.heap.size < wr.heap.size := (hown.lt w1.heap.size rfl).2
      have hlen := upN_len s.data.toList (i + z) k xs (i + z') HU.out
      have hxl := Lib.hid hlen.1
      have hz1 := hlen.2.1
      have hz2 : i + z' ≤ s.size := by
        rcases hlen.2.2 with ⟨_, h⟩ | h
        · omega
        · rw [list_len] at h; exact h
      clear hown hbel hlen
      by_cases hlt : k < n
      · have hwf : (Lit.int .i64 ((i : Int) + (z' : Int))).wf = true := WalkArith.wf_i64 (by omega)
        have DV := Lib.hid (fun W => i_decV s ((i : Int) + (z' : Int)) W (by unfold maxLen; omega) hwf)
        have e1 : dvZ s.data.toList ((i : Int) + (z' : Int)) = dcV (s.data.toList.drop (i + z')) := by rw [← Int.natCast_add, dvZ_nat]
        rw [e1] at DV
        have k0 : (0 : Int) ≤ (k : Int) := by omega
        have k1 : (k : Int) < (n : Int) := by omega
        clear e1 hwf
        rcases dcV_cases (s.data.toList.drop (i + z')) with e | ⟨v, m, e, g1, g2, g3, g4, _⟩
        · rw [e] at DV
          dsimp only [dvV] at DV
          try simp only [Int.natCast_zero] at DV
          have HV : Hid (unZ s.data.toList (i : Int) = ([], 0, false)) := Lib.hid (unZ_none _ _ _ _ HD.out (upN_far _ _ _ (upN_no _ _ _ _ _ HU.out e) n (by omega)))
          clear e HO
          go_wp2_with fail
          refine (DV.out _).mono ?_
          rintro e w2 ⟨rfl, b2⟩
          have HB2 := Lib.hid (HB.out.trans (b2.mono hB))
          clear b2
          go_wp2
          go_ret3
          exact ret_nU (r := ([], 0, false)) HV.out.symm ⟨_, rfl, World.ownsRow_nil _ _ _ _, HB2.out⟩
        · have HU2 := Lib.hid (upN_ok _ _ _ _ _ _ _ HU.out e)
          have SD := Lib.hid (fun W => i_sgd (v : Int) W)
          rw [e] at DV
          dsimp only [dvV] at DV
          obtain ⟨u, hu⟩ : ∃ u, sgdZ (v : Int) = u := ⟨_, rfl⟩
          rw [hu] at HU2 SD
          obtain ⟨y0, R', hRe⟩ : ∃ y R', R = y :: R' := by
            cases R with
            | nil => simp at hR; omega
            | cons y R' => exact ⟨y, R', rfl⟩
          subst hRe
          have HR' : Hid (R'.length = n - (k + 1)) := Lib.hid (by simp at hR; omega)
          have HS := Lib.hid (int_put xs y0 R' u k hxl.out)
          rw [List.length_drop, list_len] at g4
          clear e hu hR
          go_wp2_with fail
          refine (DV.out _).mono ?_
          rintro e w2 ⟨rfl, b2⟩
          have HB2 := Lib.hid (HB.out.trans (b2.mono hB))
          have HO2 := Lib.hid (owns_below HO.out b2)
          have hB2 : w.heap.size ≤ w2.heap.size := Nat.le_trans hB b2.size
          have hgl2 : w1.heap.size < w2.heap.size := Nat.lt_of_lt_of_le hgl b2.size
          clear b2
          go_wp2_with fail
          refine (SD.out _).mono ?_
          rintro e w3 ⟨rfl, rfl⟩
          have hlen : (intV xs ++ y0 :: R').length = n * 1 := HO2.out.1
          obtain ⟨z0, e0⟩ : ∃ y, w2.cell? ⟨w1.heap.size, k, none⟩ = some y := by
            rw [HO2.out.cellAt k (by omega)]
            exact ⟨_, List.getElem?_eq_getElem (by omega)⟩
          have fr := HO2.out.frozenAt
          have S1 := HO2.out.stored k (.int .i64 u)
          have HO3 := Lib.hid (HS.out ▸ S1.1)
          have HB3 := Lib.hid (HB2.out.grown S1.2 hB2 (fun j hj => by injection hj with e; omega))
          have HU3 : Hid (upN s.data.toList (i + z) (k + 1) = some (xs ++ [u], i + (z' + m))) := Lib.hid (by rw [HU2.out, Nat.add_assoc])
          clear hlen S1
          go_wp2
          go_roundw
          case rel => exact ⟨k + 1, z' + m, xs ++ [u], R', by omega, by go_num, by go_num, HU3, HR'.out, HO3.out, HB3.out⟩
          case measure => simp [intOf]; omega
      · have hkn : k = n := by omega
        subst hkn
        have hR0 : R = [] := List.length_eq_zero_iff.1 (by omega)
        subst hR0
        have HV : Hid (unZ s.data.toList (i : Int) = (xs, z', true)) := Lib.hid (by rw [unZ_some _ _ _ _ _ _ HD.out HU.out]; congr 2; omega)
        have HF : Hid (wr.ownsRow w.heap.size 3 1 (.slice (some ⟨w1.heap.size, 0, none⟩) k k) xs.length (intV xs)) := Lib.hid (by have h := HO.out; rw [List.append_nil] at h; rw [hxl.out]; exact h)
        clear HO hR hlt hk
        go_wp2
        go_ret3
        exact ret_nU (r := (xs, z', true)) HV.out.symm ⟨_, rfl, HF.out, HB.out⟩
end Go.Proofs.Ytfemkbdgbpgjgaa
