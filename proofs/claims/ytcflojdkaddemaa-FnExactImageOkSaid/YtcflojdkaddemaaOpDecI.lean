/- The program's DecodeOp. -/
import Derived.Test.YtcflojdkaddemaaOpDecP
import Derived.Test.YtcflojdkaddemaaOpFit
import Derived.Test.YtcflojdkaddemaaOpImplA
import Derived.Test.YtcflojdkaddemaaOpSzI
import Derived.Lib.LazyBuf
import Derived.Deep.RegionHeld3
import Derived.Deep.QuietTactic
import Derived.BigQuiet
import Derived.Deep.Cut
import Derived.Deep.RegionLaw
import Derived.Laws.DeepStrings4
namespace Go.Proofs.Ytcflojdkaddemaa
open Go.RowKit Go.Lib

theorem below_drwI {B : Nat} {w w' : World} (h : Below B w w') (k : Nat) : Below B w (w'.drewN k) := ⟨h.os, h.tape, h.output, h.size, h.block⟩
theorem wid_one' (c : Int) (h : sgnB c = true) : 1 ≤ widN c := by rcases sgn_wid c h with h | h <;> omega

/-- A row behind a copy into it. -/
theorem heap_setCells {b : Nat} {T : TypeId} : ∀ (vs : List Value) (o : Nat) (w : World) (cs : Array Value), w.heap[b]? = some (.cells cs T (0, 0)) → o + vs.length ≤ cs.size →
    (w.setCells b o vs).heap[b]? = some (.cells (cs.toList.take o ++ vs ++ cs.toList.drop (o + vs.length)).toArray T (0, 0))
  | [], o, w, cs, h, _ => by
    simp only [List.append_nil, List.length_nil, Nat.add_zero, List.take_append_drop, Array.toArray_toList]
    exact h
  | v :: r, o, w, cs, h, hl => by
    have hl' : o + (r.length + 1) ≤ cs.size := by simpa using hl
    have ih := heap_setCells r (o + 1) (w.setCell ⟨b, o, none⟩ v) (cs.setIfInBounds o v) (heap_setCell_at h v) (by rw [Array.size_setIfInBounds]; omega)
    have e := list_seg_step cs.toList o v r (by rw [Array.length_toList]; omega)
    show ((w.setCell ⟨b, o, none⟩ v).setCells b (o + 1) r).heap[b]? = _
    rw [ih, Array.toList_setIfInBounds, e]
    rfl
theorem copy_arr (B : List UInt8) (hB : B.length ≤ 8) : ((arrC (List.replicate 8 0)).toList.take 0 ++ byteCells B ++ (arrC (List.replicate 8 0)).toList.drop (0 + (byteCells B).length)).toArray = arrC (B ++ List.replicate (8 - B.length) 0) := by
  unfold arrC
  rw [List.take_zero, List.nil_append, byteCells_append, byteCells_length, Nat.zero_add]
  have : (byteCells (List.replicate 8 0)).drop B.length = byteCells (List.replicate (8 - B.length) 0) := by
    unfold byteCells
    rw [← List.map_drop, List.drop_replicate]
  rw [this]

theorem i_dec_none (s : ByteArray) (a : Int) (w : World) (hm : s.size ≤ 4294967296) (h : decZ s.data.toList a = none) :
    Calls Try.prog 15 #[.string s, .int .i64 a] w fun e w' => e = .returned (decV (decZ s.data.toList a)) ∧ Below w.heap.size w w' := by
  have HN := Lib.hid h
  have SI := Lib.hid (fun W => i_stp s a W hm)
  rw [h] at SI
  change Hid (∀ W, Calls Try.prog 41 #[.string s, .int .i64 a] W fun e w' => e = .returned (.int .i64 0) ∧ Below W.heap.size W w') at SI
  clear h hm
  go_enter Try.func15, Try.ntmps15
  go_wp2_with fail
  refine (SI.out _).mono ?_
  rintro e w1 ⟨rfl, b1⟩
  have HK : Hid (w1.heap[w.heap.size]? = some (.cells #[.int .i64 0, .int .i64 0] 28 (0, 0))) := Lib.hid ((b1.block _ (by simp)).trans (heap_alloc_new w _))
  have HB1 : Hid (Below w.heap.size w w1) := Lib.hid (((Below.refl w.heap.size w).alloc (Nat.le_refl _) _).trans (b1.mono (by simp)))
  have q0 : w1.cell? ⟨w.heap.size, 0, none⟩ = some (.int .i64 0) := (blk HK.out).1 0 _ rfl
  have q1 : w1.cell? ⟨w.heap.size, 1, none⟩ = some (.int .i64 0) := (blk HK.out).1 1 _ rfl
  have p0 : w1.frozen? ⟨w.heap.size, 0, none⟩ = false := (blk HK.out).2.1 0
  have p1 : w1.frozen? ⟨w.heap.size, 1, none⟩ = false := (blk HK.out).2.1 1
  clear b1
  go_wp2_with fail
  refine bodyPost_ret (v := .tuple #[.agg #[.int .i64 0, .int .i64 0], .int .i64 0, .bool false]) (by simp [results, Try.results15, go_sem, q0, q1]) rfl ⟨by rw [HN.out]; rfl, ?_⟩
  exact (HB1.out.setCell (Nat.le_refl _) _).setCell (Nat.le_refl _) _

set_option maxRecDepth 100000 in
set_option maxHeartbeats 1000000 in
theorem i_dec_some (s : ByteArray) (i : Nat) (w : World) (hm : s.size ≤ 4294967296) (h : i < s.size) (hne : decZ s.data.toList (i : Int) ≠ none) :
    Calls Try.prog 15 #[.string s, .int .i64 (i : Int)] w fun e w' => e = .returned (decV (decZ s.data.toList (i : Int))) ∧ Below w.heap.size w w' := by
  have hl : i < s.data.toList.length := by rw [list_len]; exact h
  have HR := Lib.hid (decZ_in s.data.toList i hl)
  have hg : s.data.toList[i] = s[i]'h := rfl
  rw [hg] at HR
  have SI := Lib.hid (fun W => i_stp s (i : Int) W hm)
  have SH := Lib.hid (fun W => i_shape ((s[i]'h).toNat : Int) W)
  have hb := (s[i]'h).toNat_lt
  have hwc : wrap64 ((s[i]'h).toNat : Int) = ((s[i]'h).toNat : Int) := by unfold wrap64; omega
  obtain ⟨c, hc⟩ : ∃ c : Int, ((s[i]'h).toNat : Int) = c := ⟨_, rfl⟩
  rw [hc] at HR SH
  have hc0 : 0 ≤ c := by omega
  have hc1 : c < 256 := by omega
  have HC := Lib.hid hc
  have hw4 := widN_le c
  have hi1 : (i : Int) < (s.size : Int) := by omega
  have hi0 : (0 : Int) ≤ (i : Int) := by omega
  have hmi : (s.size : Int) ≤ 4294967296 := by omega
  clear hc hb hg hl
  have hq : c ≤ 17 ∧ widN c ≤ (s.data.toList.drop (i + 1)).length := Classical.byContradiction fun hq => hne (by rw [HR.out, if_neg hq])
  have h17' : c ≤ 17 := hq.1
  obtain ⟨m, hme⟩ : ∃ m : Nat, widN c = m := ⟨_, rfl⟩
  obtain ⟨sg, hsg⟩ : ∃ sg, sgnB c = sg := ⟨_, rfl⟩
  obtain ⟨n, hn⟩ : ∃ n : Nat, 1 + m = n := ⟨_, rfl⟩
  have HSN : Hid (stepN (decZ s.data.toList (i : Int)) = n) := Lib.hid (by rw [HR.out, if_pos hq]; show 1 + widN c = n; rw [hme]; exact hn)
  rw [HSN.out] at SI
  have HL : Hid ((s.data.toList.drop (i + 1)).length = s.size - (i + 1)) := Lib.hid (by rw [List.length_drop, list_len])
  have hq2 := hq.2
  rw [HL.out, hme] at hq2
  have HW1 := Lib.hid (fun h => wid_one' c h)
  have HM := Lib.hid hme
  have HSG := Lib.hid hsg
  rw [hme] at HR SH hw4 HW1
  rw [hsg] at SH HW1
  have HNM := Lib.hid hn
  have hn1 : 1 ≤ n := by omega
  have hn5 : n ≤ 5 := by omega
  have hz : ((n : Int) == 0) = false := beq_eq_false_iff_ne.2 (by omega)
  have hfar : ¬ (s.size : Int) - (i : Int) < (n : Int) := by omega
  clear hme hsg hn hne hq hq2 HSN
  have hnear : (i : Int) + (n : Int) ≤ (s.size : Int) := by omega
  have hnear' : ¬ (s.size : Int) - (i : Int) < (n : Int) := hfar
  obtain ⟨B, hB⟩ : ∃ B, (s.data.toList.drop (i + 1)).take m = B := ⟨_, rfl⟩
  have HN : Hid (decZ s.data.toList (i : Int) = some (⟨c, sgnV c (valB B)⟩, 1 + m)) := Lib.hid (by rw [HR.out, if_pos ⟨h17', by have := HL.out; have := HNM.out; omega⟩, hB])
  have HBL : Hid (B.length = m) := Lib.hid (by rw [← hB, List.length_take, HL.out]; have := HNM.out; omega)
  obtain ⟨X, hX⟩ : ∃ X, s.extract (i + 1) (i + n) = X := ⟨_, rfl⟩
  have HXB : Hid (X.data.toList = B) := Lib.hid (by rw [← hX, ext_toList, ← hB]; have := HNM.out; rw [show i + n - (i + 1) = m from by omega])
  have HXS : Hid (X.size = m) := Lib.hid (by rw [← list_len, HXB.out, HBL.out])
  have HXX := Lib.hid hX
  have HLEN : Hid ((B ++ List.replicate (8 - m) 0).length = 8) := Lib.hid (by rw [List.length_append, List.length_replicate, HBL.out]; omega)
  have WI := Lib.hid (fun W => i_wide m sg (B ++ List.replicate (8 - m) 0) W HLEN.out (by omega) HW1.out)
  have NU := Lib.hid (fun W => i_number (widL m sg (B ++ List.replicate (8 - m) 0)) W (widL_length _ _ _ HLEN.out (by omega)))
  have HVAL : Hid (wrap64 (valB (widL m sg (B ++ List.replicate (8 - m) 0)) : Int) = sgnV c (valB B)) := Lib.hid (by
    have h := read_bytes c B (by rw [HM.out, HBL.out])
    rw [HM.out, HSG.out] at h
    exact h)
  rw [HVAL.out] at NU
  obtain ⟨V, hV⟩ : ∃ V, sgnV c (valB B) = V := ⟨_, rfl⟩
  rw [hV] at NU HN
  obtain ⟨x0, x1, x2, x3, x4, x5, x6, x7, hx⟩ := arr8 (B ++ List.replicate (8 - m) 0) HLEN.out
  have HX8 := Lib.hid hx
  rw [hx] at WI
  obtain ⟨i5, hi5, hz5, hz6, hz7⟩ := info_parts infoU
  have HSO : Hid (∀ w : World, (Go.sizeOf 5).run Try.prog w = .ok 1 w) := Lib.hid (fun w => by simp [Go.sizeOf, typeInfo, hi5, hz6])
  clear hfar hV hx hB hX hi5 hz5 hz6 hz7 h17' HR HSG HM HVAL
  go_enter Try.func15, Try.ntmps15
  go_wp2_with fail
  refine (SI.out _).mono ?_
  rintro e w1 ⟨rfl, b1⟩
  have HK : Hid (w1.heap[w.heap.size]? = some (.cells #[.int .i64 0, .int .i64 0] 28 (0, 0))) := Lib.hid ((b1.block _ (by simp)).trans (heap_alloc_new w _))
  have HB1 : Hid (Below w.heap.size w w1) := Lib.hid (((Below.refl w.heap.size w).alloc (Nat.le_refl _) _).trans (b1.mono (by simp)))
  have z1 : w.heap.size < w1.heap.size := by have := b1.size; simp at this; omega
  clear b1
  go_wp2_with fail
  have hs0 : (0 : Int) ≤ (i : Int) + 1 := by omega
  have hs1 : (i : Int) + 1 ≤ (i : Int) + (n : Int) := by omega
  obtain ⟨W1, hW1⟩ : ∃ W, w1.alloc (.cells #[.int .u8 0, .int .u8 0, .int .u8 0, .int .u8 0, .int .u8 0, .int .u8 0, .int .u8 0, .int .u8 0] 71) = W := ⟨_, rfl⟩
  have HA : Hid (Below w1.heap.size w1 W1) := Lib.hid (hW1 ▸ (Below.refl _ _).alloc (Nat.le_refl _) _)
  have HP : Hid (W1.heap[w1.heap.size]? = some (.cells (arrC (List.replicate 8 0)) 71 (0, 0))) := Lib.hid (by rw [← hW1]; exact heap_alloc_new w1 _)
  have HK1 : Hid (W1.heap[w.heap.size]? = some (.cells #[.int .i64 0, .int .i64 0] 28 (0, 0))) := Lib.hid ((HA.out.block _ z1).trans HK.out)
  have HCC : Hid (∀ j, j < X.size → (W1.drew.cell? ⟨w1.heap.size, 0 + j, none⟩).isSome = true) := Lib.hid (fun j hj => by
    have h := (blk HP.out).1 j _ (arrC_at (List.replicate 8 0) j (by rw [List.length_replicate]; have := HXS.out; omega))
    rw [Nat.zero_add]
    show (W1.cell? _).isSome = true
    rw [h]; rfl)
  have HFF : Hid (∀ j, j < X.size → W1.drew.frozen? ⟨w1.heap.size, 0 + j, none⟩ = false) := Lib.hid (fun j _ => (blk HP.out).2.1 _)
  have HXL : Hid (X.size ≤ 8) := Lib.hid (by rw [HXS.out]; omega)
  have hwa : IntKind.i64.wrap ((i : Int) + 1) = (i : Int) + 1 := by rw [IntKind.wrap_i64]; omega
  have hwb : IntKind.i64.wrap ((i : Int) + (n : Int)) = (i : Int) + (n : Int) := by rw [IntKind.wrap_i64]; omega
  have HWA := Lib.hid hwa
  have HWB := Lib.hid hwb
  have hsl : ∀ W : World, (Instr.slice 9 (.string s) (some (.int .i64 ((i : Int) + 1))) (some (.int .i64 ((i : Int) + (n : Int)))) none).run Try.prog W = .ok (.string X) W := fun W => by
    rw [run_slice_string_if W _ s .i64 .i64 _ _ Try.underlying9, if_pos ⟨by omega, hnear⟩, if_pos ⟨hs0, hs1⟩, show ((i : Int) + 1).toNat = i + 1 from by omega, show ((i : Int) + (n : Int)).toNat = i + n from by omega, HXX.out]
  clear hwa hwb hs0 hs1 hnear hnear' hn1 hn5 hz
  have hwa : IntKind.i64.wrap ((i : Int) + 1) = (i : Int) + 1 := HWA.out
  have hwb : IntKind.i64.wrap ((i : Int) + (n : Int)) = (i : Int) + (n : Int) := HWB.out
  rw [hW1]
  go_region_law (first
    | (refine step_copy_string ?_ (.tmp 16) (.tmp 23) 22 9 ?_ 5 Try.underlying22 HSO.out w1.heap.size 0 8 8 ?_ X ?_ HXL.out HCC.out HFF.out ?_; rfl; rfl; kernel_rfl; kernel_rfl))
  all_goals
    obtain ⟨W2, hW2⟩ : ∃ W, W1.drew.setCells w1.heap.size 0 (List.map (fun x : UInt8 => Value.int .u8 (x.toNat : Int)) X.data.toList) = W := ⟨_, rfl⟩
    have HB2 : Hid (Below w1.heap.size w1 W2) := Lib.hid (hW2 ▸ below_setCells (Nat.le_refl _) _ _ _ HA.out.drew)
    have HP2 : Hid (W2.heap[w1.heap.size]? = some (.cells (arrC (B ++ List.replicate (8 - m) 0)) 71 (0, 0))) := Lib.hid (by
      have h := heap_setCells (byteCells X.data.toList) 0 W1.drew (arrC (List.replicate 8 0)) (b := w1.heap.size) (T := 71) HP.out (by rw [byteCells_length, list_len, HXS.out]; show 0 + m ≤ 8; omega)
      rw [copy_arr X.data.toList (by rw [list_len, HXS.out]; omega), HXB.out, HBL.out] at h
      rw [← hW2, HXB.out]
      exact h)
    have HK2 : Hid (W2.heap[w.heap.size]? = some (.cells #[.int .i64 0, .int .i64 0] 28 (0, 0))) := Lib.hid ((HB2.out.block _ z1).trans HK.out)
    have hB2 : w1.heap.size < W2.heap.size := (blk HP2.out).2.2
    have KEEP : Hid (∀ W, Below W2.heap.size W2 W → W.cell? ⟨w1.heap.size, 0, none⟩ = some (.int .u8 x0) ∧ W.cell? ⟨w1.heap.size, 1, none⟩ = some (.int .u8 x1) ∧ W.cell? ⟨w1.heap.size, 2, none⟩ = some (.int .u8 x2) ∧ W.cell? ⟨w1.heap.size, 3, none⟩ = some (.int .u8 x3) ∧ W.cell? ⟨w1.heap.size, 4, none⟩ = some (.int .u8 x4) ∧ W.cell? ⟨w1.heap.size, 5, none⟩ = some (.int .u8 x5) ∧ W.cell? ⟨w1.heap.size, 6, none⟩ = some (.int .u8 x6) ∧ W.cell? ⟨w1.heap.size, 7, none⟩ = some (.int .u8 x7) ∧ W.cell? ⟨w.heap.size, 0, none⟩ = some (.int .i64 0) ∧ W.cell? ⟨w.heap.size, 1, none⟩ = some (.int .i64 0) ∧ W.frozen? ⟨w.heap.size, 0, none⟩ = false ∧ W.frozen? ⟨w.heap.size, 1, none⟩ = false) := Lib.hid (fun W hb => by
      have h := (hb.block _ hB2).trans HP2.out
      rw [HX8.out] at h
      have q := (blk h).1
      have p := blk ((hb.block w.heap.size (by omega)).trans HK2.out)
      exact ⟨q 0 _ rfl, q 1 _ rfl, q 2 _ rfl, q 3 _ rfl, q 4 _ rfl, q 5 _ rfl, q 6 _ rfl, q 7 _ rfl, p.1 0 _ rfl, p.1 1 _ rfl, p.2.1 0, p.2.1 1⟩)
    have REST : Hid (∀ W, Below W2.heap.size W2 W → W.cell? ⟨w.heap.size, 0, none⟩ = some (.int .i64 0) ∧ W.cell? ⟨w.heap.size, 1, none⟩ = some (.int .i64 0) ∧ W.frozen? ⟨w.heap.size, 0, none⟩ = false ∧ W.frozen? ⟨w.heap.size, 1, none⟩ = false) := Lib.hid (fun W hb => by
      have p := blk ((hb.block w.heap.size (by omega)).trans HK2.out)
      exact ⟨p.1 0 _ rfl, p.1 1 _ rfl, p.2.1 0, p.2.1 1⟩)
    have HBW : Hid (∀ W, Below W2.heap.size W2 W → Below w.heap.size w W) := Lib.hid (fun W hb => (HB1.out.trans (HB2.out.mono (by omega))).trans (hb.mono (by omega)))
    obtain ⟨ma0, ma1, ma2, ma3, ma4, ma5, ma6, ma7, ra0, ra1, fa0, fa1⟩ := KEEP.out W2 (Below.refl _ _)
    rw [hW2]
    clear hW2 HCC HFF HP HK1 HA HK hwa hwb hsl HWA HWB HXX HXL hW1
    go_wp2_with fail
    rw [HC.out]
    try rw [show wrap64 c = c from by unfold wrap64; omega]
    clear hwc
    go_region_law (first
      | (go_simp; go_at_call 38; (with_reducible refine (SH.out _).mono ?_); rintro e w4 ⟨rfl, b4⟩; have B4 : Hid (Below W2.heap.size W2 w4) := Lib.hid (undrew b4); obtain ⟨mb0, mb1, mb2, mb3, mb4, mb5, mb6, mb7, rb0, rb1, fb0, fb1⟩ := KEEP.out _ B4.out)
      | (go_simp; go_at_call 40; (with_reducible refine (WI.out _).mono ?_); rintro e w5 ⟨rfl, b5⟩; have B5 : Hid (Below W2.heap.size W2 w5) := Lib.hid (B4.out.trans (b5.mono B4.out.size)); obtain ⟨rc0, rc1, fc0, fc1⟩ := REST.out _ B5.out)
      | (go_simp; go_at_call 42; (with_reducible refine (NU.out _).mono ?_); rintro e w6 ⟨rfl, b6⟩; have B6 : Hid (Below W2.heap.size W2 w6) := Lib.hid (B5.out.trans (b6.mono B5.out.size)); obtain ⟨rd0, rd1, fd0, fd1⟩ := REST.out _ B6.out))
    all_goals
      have HB6 := Lib.hid (HBW.out _ B6.out)
      clear b4 b5 b6 ma0 ma1 ma2 ma3 ma4 ma5 ma6 ma7 ra0 ra1 fa0 fa1 mb0 mb1 mb2 mb3 mb4 mb5 mb6 mb7 rb0 rb1 fb0 fb1 rc0 rc1 fc0 fc1
      go_wp2_with fail
      refine bodyPost_ret (v := .tuple #[.agg #[.int .i64 c, .int .i64 V], .int .i64 (n : Int), .bool true]) (by simp [results, Try.results15, go_sem, rd0, rd1]) rfl ⟨?_, ?_⟩
      · rw [HN.out]
        show _ = Ending.returned (.tuple #[.agg #[.int .i64 c, .int .i64 V], .int .i64 ((1 + m : Nat) : Int), .bool true])
        rw [HNM.out]
      · exact (HB6.out.setCell (Nat.le_refl _) _).setCell (Nat.le_refl _) _
end Go.Proofs.Ytcflojdkaddemaa
