/- EncodeRules, the program's. -/
import Derived.Test.YtfemkbdgbpgjgaaVruPlain
import Derived.Test.YtfemkbdgbpgjgaaPackS
import Derived.Test.YtfemkbdgbpgjgaaPackU
namespace Go.Proofs.Ytfemkbdgbpgjgaa
open Go.RowKit Go.Lib

set_option maxRecDepth 100000 in
set_option maxHeartbeats 2000000 in
theorem i_encR (a : Option Addr) (cap : Nat) (X : List RuL) (w : World) (hl : X.length ≤ 1048576) (hr : ReadRu w a X) :
    Calls Try.prog 27 #[.slice a X.length cap] w fun e w' => e = .returned (.string ⟨(erZ X).toArray⟩) ∧ Below w.heap.size w w' := by
  have HR := Lib.hid hr
  have OK := Lib.hid (fun W (h : ReadRu W a X) => i_rulesOk a cap X W (by omega) h)
  cases hf : ruF 0 X with
  | false =>
    rw [hf] at OK
    have HV := Lib.hid (erZ_no X hf)
    clear hf hr
    go_enter Try.func27, Try.ntmps27
    go_wp2_with fail
    refine (OK.out _ HR.out).mono ?_
    rintro e w1 ⟨rfl, b1⟩
    have HB := Lib.hid b1
    clear b1
    go_wp2
    go_ret
    rw [HV.out]
    exact ⟨rfl, HB.out⟩
  | true =>
    rw [hf] at OK
    have HF := Lib.hid hf
    have HV := Lib.hid (erZ_yes X hf)
    obtain ⟨i0, hi, hz0, hz1, hz2⟩ := info_parts infoU
    obtain ⟨n, hn⟩ : ∃ n, X.length = n := ⟨_, rfl⟩
    have HN := Lib.hid hn
    rw [hn] at OK hl ⊢
    clear hf hr hn
    go_enter Try.func27, Try.ntmps27
    go_wp2_with fail
    refine (OK.out _ HR.out).mono ?_
    rintro e w1 ⟨rfl, b1⟩
    have HB1 := Lib.hid b1
    clear b1 OK
    go_wp2_with fail
    go_loopw [3, 4, 13] (fun v la i wr => ∃ k : Nat, k ≤ n ∧ i = .int .i64 (k : Int) ∧ la = .int .i64 (lastE 0 (X.take k)) ∧ wr.ownsRow w.heap.size 3 1 v (ruN 0 (X.take k)).length (intV (ruN 0 (X.take k))) ∧ Below w.heap.size w wr) (fun _ _ i _ => n - (RowKit.intOf i).toNat)
    case atStart => exact ⟨0, Nat.zero_le _, rfl, rfl, World.ownsRow_nil _ _ _ _, HB1.out⟩
    case round =>
      obtain ⟨k, hk, rfl, rfl, hown, hbel⟩ := hrel
      have HB := Lib.hid hbel
      have hB := hbel.size
      by_cases hlt : k < n
      · have hkl : k < X.length := by rw [HN.out]; exact hlt
        obtain ⟨g, rfl, hg, c0, c1, c2, c3⟩ := (HR.out.below hbel) k hkl
        have hb := ruB_is (ruF_get X 0 k hkl HF.out)
        have hlb := lastE_bd X k HF.out (by omega)
        have hT := ruN_take X 0 k hkl
        have hL := lastE_take X 0 k hkl
        have hln := ruN_length (X.take k) 0
        rw [List.length_take] at hln
        have h63 : (ruN 0 (X.take k)).length + 4 ≤ maxLen := by unfold maxLen; omega
        have hby : ((ruN 0 (X.take k)).length + 4) * 8 ≤ 140737488355328 := by omega
        have k0 : (0 : Int) ≤ (k : Int) := by omega
        have k1 : (k : Int) < (n : Int) := by omega
        generalize X[k] = xx at *
        obtain ⟨st, sp, fr, de⟩ := xx
        dsimp only at c0 c1 c2 c3 hb hL
        obtain ⟨la, hla⟩ : ∃ la, lastE 0 (X.take k) = la := ⟨_, rfl⟩
        obtain ⟨L, hLe⟩ : ∃ L, ruN 0 (X.take k) = L := ⟨_, rfl⟩
        rw [hla] at hb hlb hT ⊢
        rw [hLe] at hT h63 hby hown
        have HT := Lib.hid hT
        have HL := Lib.hid hL
        obtain ⟨g0, g1, g2, g3, g4⟩ := hb
        obtain ⟨l0, l1⟩ := hlb
        have HB2 : Hid (Below w.heap.size w (wr.alloc (.cells #[.int .i64 st, .int .i64 sp, .bool fr, .int .i64 de] 61))) := Lib.hid (HB.out.alloc hB _)
        have T0 := Lib.hid (heap_alloc_new wr (.cells #[.int .i64 st, .int .i64 sp, .bool fr, .int .i64 de] 61))
        have HOW := Lib.hid (fun g hg => (hown.lt g hg).2)
        have hown2 := hown.alloc (.cells #[.int .i64 st, .int .i64 sp, .bool fr, .int .i64 de] 61)
        clear hla hLe hT hL hbel hown hln
        cases fr
        · have HT2 : Hid (intV (ruN 0 (X.take (k + 1))) = intV L ++ [.int .i64 (st - la), .int .i64 (sp - st), .int .i64 0, .int .i64 de]) := Lib.hid (by rw [HT.out, intV_append]; rfl)
          go_wp2_with (at_builtin; refine wpList_append_own _ rfl _ _ 28 rfl w.heap.size 3 i0 (.int .i64 0) 1 8 Try.underlying28 hi hz0 hz1 hz2 rfl (by decide) _ _ _ rfl (hown2.alloc _) ⟨wr.heap.size + 1, 0, none⟩ 4 4 [.int .i64 (st - la), .int .i64 (sp - st), .int .i64 0, .int .i64 de] rfl rfl (World.news_of_block (cs := #[.int .i64 (st - la), .int .i64 (sp - st), .int .i64 0, .int .i64 de]) (t := 3) (fr := (0, 0)) (by have h := heap_alloc_new (wr.alloc (.cells #[.int .i64 st, .int .i64 sp, .bool false, .int .i64 de] 61)) (.cells #[.int .i64 (st - la), .int .i64 (sp - st), .int .i64 0, .int .i64 de] 3); simpa using h)) (fun u hu => by simp at hu; rcases hu with rfl | rfl | rfl | rfl <;> rfl) h63 hby (by simp; omega) ?_)
          intro v' w4 hown1 hgrow _
          have R := Lib.hid (owns_ints (l := ruN 0 (X.take (k + 1))) hown1 HT2.out)
          have hB2 : w.heap.size ≤ (wr.alloc (.cells #[.int .i64 st, .int .i64 sp, .bool false, .int .i64 de] 61)).heap.size := HB2.out.size
          have RB := Lib.hid (below_app' hown2 HB2.out hB2 hgrow)
          have RG : Hid (w4.cell? ⟨wr.heap.size, 1, none⟩ = some (.int .i64 sp)) := Lib.hid (by
            have e1 := ((Below.refl (wr.alloc (.cells #[.int .i64 st, .int .i64 sp, .bool false, .int .i64 de] 61)).heap.size (wr.alloc (.cells #[.int .i64 st, .int .i64 sp, .bool false, .int .i64 de] 61))).alloc (Nat.le_refl _) (.cells #[.int .i64 (st - la), .int .i64 (sp - st), .int .i64 0, .int .i64 de] 3)).block wr.heap.size (by simp)
            have e2 := hgrow.block wr.heap.size (by simp; omega) (fun h => by have := HOW.out _ h.symm; omega)
            exact (blk (e2.trans (e1.trans T0.out))).1 1 _ rfl)
          have rg := RG.out
          clear hown1 hgrow hown2 hB2 T0
          go_wp2
          go_roundw
          case rel => exact ⟨k + 1, by omega, by go_num, by rw [HL.out], R.out, RB.out⟩
          case measure => simp [RowKit.intOf]; omega
        · have HT2 : Hid (intV (ruN 0 (X.take (k + 1))) = intV L ++ [.int .i64 (st - la), .int .i64 (sp - st), .int .i64 1, .int .i64 de]) := Lib.hid (by rw [HT.out, intV_append]; rfl)
          go_wp2_with (at_builtin; refine wpList_append_own _ rfl _ _ 28 rfl w.heap.size 3 i0 (.int .i64 0) 1 8 Try.underlying28 hi hz0 hz1 hz2 rfl (by decide) _ _ _ rfl (hown2.alloc _) ⟨wr.heap.size + 1, 0, none⟩ 4 4 [.int .i64 (st - la), .int .i64 (sp - st), .int .i64 1, .int .i64 de] rfl rfl (World.news_of_block (cs := #[.int .i64 (st - la), .int .i64 (sp - st), .int .i64 1, .int .i64 de]) (t := 3) (fr := (0, 0)) (by have h := heap_alloc_new (wr.alloc (.cells #[.int .i64 st, .int .i64 sp, .bool true, .int .i64 de] 61)) (.cells #[.int .i64 (st - la), .int .i64 (sp - st), .int .i64 1, .int .i64 de] 3); simpa using h)) (fun u hu => by simp at hu; rcases hu with rfl | rfl | rfl | rfl <;> rfl) h63 hby (by simp; omega) ?_)
          intro v' w4 hown1 hgrow _
          have R := Lib.hid (owns_ints (l := ruN 0 (X.take (k + 1))) hown1 HT2.out)
          have hB2 : w.heap.size ≤ (wr.alloc (.cells #[.int .i64 st, .int .i64 sp, .bool true, .int .i64 de] 61)).heap.size := HB2.out.size
          have RB := Lib.hid (below_app' hown2 HB2.out hB2 hgrow)
          have RG : Hid (w4.cell? ⟨wr.heap.size, 1, none⟩ = some (.int .i64 sp)) := Lib.hid (by
            have e1 := ((Below.refl (wr.alloc (.cells #[.int .i64 st, .int .i64 sp, .bool true, .int .i64 de] 61)).heap.size (wr.alloc (.cells #[.int .i64 st, .int .i64 sp, .bool true, .int .i64 de] 61))).alloc (Nat.le_refl _) (.cells #[.int .i64 (st - la), .int .i64 (sp - st), .int .i64 1, .int .i64 de] 3)).block wr.heap.size (by simp)
            have e2 := hgrow.block wr.heap.size (by simp; omega) (fun h => by have := HOW.out _ h.symm; omega)
            exact (blk (e2.trans (e1.trans T0.out))).1 1 _ rfl)
          have rg := RG.out
          clear hown1 hgrow hown2 hB2 T0
          go_wp2
          go_roundw
          case rel => exact ⟨k + 1, by omega, by go_num, by rw [HL.out], R.out, RB.out⟩
          case measure => simp [RowKit.intOf]; omega
      · have hkn : k = n := by omega
        have e : X.take k = X := List.take_of_length_le (by rw [HN.out]; omega)
        have hln := ruN_len X HF.out
        rw [e] at hown
        have PK := Lib.hid (fun W a c h => i_pkI a c (ruN 0 X) W (by omega) h)
        obtain ⟨va, vc, rfl⟩ := owns_shape hown
        have R := Lib.hid (readI_of hown)
        have k1 : ¬ (k : Int) < (n : Int) := by omega
        have HLN : Hid ((ruN 0 (X.take k)).length = (ruN 0 X).length) := Lib.hid (by rw [e])
        clear hkn e hown hbel hln
        go_wp2_with fail
        refine (PK.out _ _ _ R.out).mono ?_
        rintro e w5 ⟨rfl, b5⟩
        have HB5 := Lib.hid (HB.out.trans (b5.mono hB))
        clear b5
        go_wp2
        go_ret
        rw [HV.out]
        exact ⟨rfl, HB5.out⟩
end Go.Proofs.Ytfemkbdgbpgjgaa
