/- The walk of the law on compiling without replaced calls. -/
import Derived.Test.YtaplbefdijcceaaGreatDoorN03
import Derived.Test.YtaplbefdijcceaaGreatDoorN37
import Derived.Test.YtaplbefdijcceaaGreatDoorN42
import Derived.Test.YtaplbefdijcceaaGreatDoorN36
import Derived.Test.YtaplbefdijcceaaGreatDoorN05
import Derived.Test.YtaplbefdijcceaaGreatDoorN10
namespace Go.Proofs.YtaplbefdijcceaaGreatDoor.fnNoInline
open Go.RowKit Go.Lib
theorem l_btoi (b : Bool) (w : World) : Calls Tryz.prog 19 #[.bool b] w fun e w' => e = .returned (.int .i64 (if b = true then 1 else 0)) ∧ w = w' := by
  cases b
  all_goals
    go_enter Tryz.func19, Tryz.ntmps19
    go_wp2
    go_ret
    exact ⟨rfl, rfl⟩
def ReadIt (w : World) (a : Option Addr) (L : List ItL) : Prop :=
  ∀ j (h : j < L.length), ∃ g xa xc, a = some ⟨g, 0, none⟩ ∧ g < w.heap.size ∧ w.cell? ⟨g, j * 7, none⟩ = some (.int .i64 L[j].code) ∧ w.cell? ⟨g, j * 7 + 1, none⟩ = some (.int .i64 L[j].arg) ∧ w.cell? ⟨g, j * 7 + 2, none⟩ = some (.int .i64 (L[j].line : Int)) ∧ w.cell? ⟨g, j * 7 + 3, none⟩ = some (.bool L[j].start) ∧ w.cell? ⟨g, j * 7 + 4, none⟩ = some (.slice xa L[j].chain.length xc)
theorem ReadIt.below {w w' : World} {a : Option Addr} {L : List ItL} (h : ReadIt w a L) (hb : Below w.heap.size w w') : ReadIt w' a L := fun j hj => by
  obtain ⟨g, xa, xc, e, hg, c0, c1, c2, c3, c4⟩ := h j hj
  exact ⟨g, xa, xc, e, Nat.lt_of_lt_of_le hg hb.size, (hb.cell (p := ⟨g, _, none⟩) hg).trans c0, (hb.cell (p := ⟨g, _, none⟩) hg).trans c1, (hb.cell (p := ⟨g, _, none⟩) hg).trans c2, (hb.cell (p := ⟨g, _, none⟩) hg).trans c3, (hb.cell (p := ⟨g, _, none⟩) hg).trans c4⟩
theorem readIt_of {B c : Nat} {w : World} {a : Option Addr} {X : List ItW} {L : List ItL} (h : w.ownsRow B 37 7 (.slice a X.length c) X.length (itV X)) (hL : X.map (·.it) = L) (hm : MadeI 3 B w (chL X)) : ReadIt w a L := by
  subst hL
  intro j hj
  have hj' : j < X.length := by simpa using hj
  rcases h.2 with ⟨he, h0⟩ | ⟨g, cap, cur, he, hB, hg, _⟩
  · omega
  · have ha : a = some ⟨g, 0, none⟩ := by injection he
    subst ha
    have hlt : g < w.heap.size := by
      rcases Nat.lt_or_ge g w.heap.size with h | h
      · exact h
      · rw [Array.getElem?_eq_none h] at hg; cases hg
    have hch := hm.1 ⟨natI X[j].it.chain, X[j].v⟩ (mem_chL.2 ⟨X[j], List.getElem_mem hj', rfl⟩)
    obtain ⟨xa, xc, e⟩ := own_sh hch
    have e' : X[j].v = .slice xa X[j].it.chain.length xc := by rw [← natI_length X[j].it.chain]; exact e
    have hl : (itV X).length = X.length * 7 := itV_length X
    have key : ∀ i, i < 7 → w.cell? ⟨g, j * 7 + i, none⟩ = (itC X[j])[i]? := fun i hi => by rw [h.cellAt _ (by omega)]; exact itV_at X j hj' i hi
    simp only [List.getElem_map]
    exact ⟨g, xa, xc, rfl, hlt, key 0 (by omega), key 1 (by omega), key 2 (by omega), key 3 (by omega), by rw [key 4 (by omega), ← e']; rfl⟩
set_option maxRecDepth 100000 in
set_option maxHeartbeats 8000000 in
theorem walk (a0 : Option Addr) (len0 cap0 : Nat) (z0 : List Int) (w : World) (w0 : IsRow .u8 w a0 len0 cap0 z0) (hL : laidMet Tryz.prog Rows.fnNoInlineRow.laid w) :
    Calls Tryz.prog 4 #[.slice a0 len0 cap0] w fun e w' => e = .returned (.bool true) ∧ Below w.heap.size w w' := by
  have HC := hid w0
  have HSH := hid (fun (W : World) (hb : Below w.heap.size w W) => (shapes_head hL).on hb)
  have hlen : len0 ≤ 9223372036854775807 := by
    rcases w0 with ⟨_, rfl, _, _⟩ | ⟨x, _, h1, h2, _⟩
    · omega
    · unfold maxLen at h2; omega
  clear hL w0
  by_cases hb : 1048576 < len0
  · go_enter Tryz.func4, Tryz.ntmps4
    go_wp2_with fail
    refine (big_yes a0 len0 cap0 _ hb hlen).mono ?_
    rintro e w' ⟨rfl, rfl⟩
    go_wp2
    go_ret
    exact ⟨rfl, Below.refl _ _⟩
  have hb' : len0 ≤ 1048576 := by omega
  go_enter Tryz.func4, Tryz.ntmps4
  go_wp2_with fail
  refine (big_no a0 len0 cap0 _ hb').mono ?_
  rintro e w' ⟨rfl, rfl⟩
  go_wp2_with fail
  refine (d_build a0 len0 cap0 z0 _ HC.out hb').mono ?_
  rintro e w1 ⟨g, cp, X, fm, inl, fo, sp, fm2, inl2, fo2, sp2, rfl, HO1, HA1, hok, m0, m1, _, _, _, _, b1⟩
  have R1 := hid (readL_of HO1.out HA1.out)
  have HB1 := hid b1
  have hcap := own_cap4 HO1.out
  have hxl := len_ok4 hok
  have HZ := hid (szal_ok4 hok)
  have HOK := hid hok
  have hs1 := b1.size
  have T2 := hid (two_new w1 (.cells #[.int .i64 fm, .int .i64 0, .bool fo, .bool sp] 26) (.cells #[.int .i64 fm2, .int .i64 (inl2 : Int), .bool fo2, .bool sp2] 26))
  clear b1 hok
  obtain ⟨wa, hwa⟩ : ∃ W, (w1.alloc (.cells #[.int .i64 fm, .int .i64 0, .bool fo, .bool sp] 26)).alloc (.cells #[.int .i64 fm2, .int .i64 (inl2 : Int), .bool fo2, .bool sp2] 26) = W := ⟨_, rfl⟩
  rw [hwa] at T2
  have HWA := hid hwa
  clear hwa
  obtain ⟨tt0, _, ttz, ttb⟩ := T2.out
  have PB := hid tt0
  have HBA : Hid (Below w.heap.size w wa) := hid (HB1.out.trans (ttb.mono hs1))
  have RA := hid (R1.out.below ttb)
  have hza := HBA.out.size
  have PO := hid (s_progOkB (some ⟨g, 0, none⟩) cp X wa (by omega) RA.out HZ.out)
  rw [(pokB_iff _).2 HOK.out] at PO
  clear tt0 ttz ttb T2
  go_upto_region 5 with fail
  rw [HWA.out]
  go_wp2_with fail
  refine PO.out.mono ?_
  rintro e w2 ⟨rfl, b2⟩
  have HB2 := hid (HBA.out.trans (b2.mono hza))
  have PB2 := hid ((b2.block _ (blk PB.out).2.2).trans PB.out)
  have R2 := hid (RA.out.below b2)
  have hz2 := HB2.out.size
  have q2 : w2.cell? ⟨w1.heap.size, 2, none⟩ = some (.bool fo) := (blk PB2.out).1 2 _ rfl
  clear b2 PO
  cases fo with
  | false =>
    go_wp2_with fail
    obtain ⟨w3, hw3⟩ : ∃ W, w2 = W := ⟨_, rfl⟩
    obtain ⟨PX, hPX⟩ : ∃ Y, X = Y := ⟨_, rfl⟩
    obtain ⟨pa, hpa⟩ : ∃ A, (some ⟨g, 0, none⟩ : Option Addr) = A := ⟨_, rfl⟩
    obtain ⟨pc, hpc⟩ : ∃ c, cp = c := ⟨_, rfl⟩
    rw [hw3] at HB2 PB2 R2 q2 ⊢
    rw [hPX] at R2 hxl hcap HZ HOK ⊢
    rw [hpa] at R2 ⊢
    rw [hpc] at hcap ⊢
    have HPO := hid HOK.out
    have HPR := hid R2.out
    have HPC : Hid (PX.length ≤ pc) := hid hcap
    have HPZ := hid HZ.out
    have hpl : PX.length ≤ 60 := hxl
    have HB3 := hid HB2.out
    have PB3 := hid PB2.out
    have HPF : Hid ((if false = true then foldP (plL PX) else plL PX) = plL PX) := hid rfl
    clear hw3 hPX hpa hpc q2 hz2
    have CO : Hid (∀ q, ∀ hq : q < (funs (plL PX)).length, ∃ L, NoInl (plL PX) (funs (plL PX))[q] L ∧ L.length ≤ 3000 ∧ ∀ W, Below w3.heap.size w3 W → Calls Tryz.prog 12 #[.slice pa PX.length pc, .int .i64 (q : Int), .agg #[.int .i64 fm, .int .i64 0, .bool false, .bool sp]] W (CompR L W)) := hid (fun q hq => by
      obtain ⟨L, hL, hN⟩ := comp_no HPO.out (frB fm q) (List.getElem_mem hq)
      refine ⟨L, hN, comp_len HPO.out (List.getElem_mem hq) (by omega) hL, fun W hW => ?_⟩
      exact i_compile0 pa pc PX (by omega) HPC.out W (HPR.out.below hW) HPZ.out (HSH.out W (HB3.out.trans (hW.mono HB3.out.size))) HPO.out q hq _ rfl fm ⟨m0, m1⟩ false sp L (by rw [HPF.out]; exact hL))
    have FL := hid (s_funLines pa pc PX w3 (by omega) HPR.out)
    have EN := hid (fun (W : World) (hb : Below w3.heap.size w3 W) (k : Int) => s_endOf pa pc PX k W (by omega) (HPR.out.below hb))
    have PB3r := hid (fun (W : World) (hb : Below w3.heap.size w3 W) => (hb.block _ (blk PB3.out).2.2).trans PB3.out)
    go_wp2_with fail
    refine FL.out.mono ?_
    rintro e w4 ⟨vf, rfl, HOF, b4⟩
    obtain ⟨fa, fc, rfl⟩ := owns_shape HOF
    have HRF := hid (readI_of HOF)
    have hfl : (funI (plL PX)).length = (funs (plL PX)).length := funI_length (plL PX)
    have hfn : (funs (plL PX)).length ≤ 6 := HPO.out.2.1.1
    have HB4 := hid b4
    have z4 := b4.size
    have HBW4 : Hid (Below w.heap.size w w4) := hid (HB3.out.trans (b4.mono HB3.out.size))
    clear b4 HOF FL
    go_wp2_with fail
    go_loopw [7, 8, 9, 10, 11, 12] (fun f _ _ _ _ _ wr => ∃ q : Nat, q ≤ (funs (plL PX)).length ∧ f = .int .i64 (q : Int) ∧ Hid (Below w4.heap.size w4 wr)) (fun f _ _ _ _ _ _ => (funs (plL PX)).length - (RowKit.intOf f).toNat)
    case atStart => exact ⟨0, Nat.zero_le _, rfl, hid (Below.refl _ _)⟩
    case round =>
      obtain ⟨q, hq, rfl, HBR⟩ := hrel
      rename World => wb
      have HD := hid (HB4.out.trans (HBR.out.mono z4))
      have HBW := hid (HBW4.out.trans (HBR.out.mono HBW4.out.size))
      by_cases hlt : q < (funs (plL PX)).length
      · have k0 : (0 : Int) ≤ (q : Int) := by omega
        have k1 : (q : Int) < ((funI (plL PX)).length : Int) := by omega
        obtain ⟨L, HN, hL3, CQ⟩ := CO.out q hlt
        have CQ := hid CQ
        have HN := hid HN
        obtain ⟨pb0, pb1, pb2, pb3⟩ := cells4 (PB3r.out wb HD.out)
        go_wp2_with fail
        refine (CQ.out _ HD.out).mono ?_
        rintro e w5 ⟨v5, X5, rfl, HO5, HX5, HM5, HB5⟩
        obtain ⟨xa, xc, rfl⟩ := own_sh HO5.out
        have hx5 : X5.length = L.length := by rw [← HX5, List.length_map]
        have RI := hid (readIt_of HO5.out HX5 HM5.out)
        rw [hx5]
        have HD5 := hid (HD.out.trans (HB5.out.mono HD.out.size))
        have HBW5 := hid (HBW.out.trans (HB5.out.mono HBW.out.size))
        have HBR5 := hid (HBR.out.trans (HB5.out.mono HBR.out.size))
        clear pb0 pb1 pb2 pb3 HO5 HX5 HM5 hx5
        go_wp2_with fail
        go_loopw [9, 10] (fun cn j wr => ∃ k : Nat, k ≤ L.length ∧ j = .int .i64 (k : Int) ∧ cn = .int .i64 (callI (L.take k) : Int) ∧ Hid (Below w5.heap.size w5 wr)) (fun _ j _ => L.length - (RowKit.intOf j).toNat)
        case atStart => exact ⟨0, Nat.zero_le _, rfl, rfl, hid (Below.refl _ _)⟩
        case round =>
          obtain ⟨k, hk, rfl, rfl, HK⟩ := hrel
          by_cases hkl : k < L.length
          · obtain ⟨gi, ya, yc, hga, hgi, c0, c1, c2, c3, c4⟩ := (RI.out.below HK.out) k hkl
            have hch := HN.out.ch _ (List.getElem_mem hkl)
            rw [hch] at c4
            have HS := hid (callI_snoc L k hkl)
            have hle := callI_le (L.take k)
            rw [List.length_take] at hle
            have j0 : (0 : Int) ≤ (k : Int) := by omega
            have j1 : (k : Int) < (L.length : Int) := by omega
            subst hga
            generalize L[k] = x at *
            obtain ⟨co, ar, li, st, ch, de, en⟩ := x
            dsimp only at c0 HS
            obtain ⟨cn, hcn⟩ : ∃ c, callI (L.take k) = c := ⟨_, rfl⟩
            rw [hcn] at HS hle ⊢
            have hc4 : cn ≤ 3000 := by omega
            clear c1 c2 c3 hcn hch
            by_cases hco : co = 12
            · subst hco
              have HS' : Hid (callI (L.take (k + 1)) = cn + 1) := hid (by rw [HS.out]; rfl)
              go_wp2_with fail
              refine (l_btoi true _).mono ?_
              rintro e w' ⟨rfl, rfl⟩
              go_wp2
              go_roundw
              case rel => exact ⟨k + 1, by omega, by go_num, by first | (rw [HS'.out]; go_num) | rw [HS'.out], HK⟩
              case measure => simp [RowKit.intOf] <;> omega
            · have HS' : Hid (callI (L.take (k + 1)) = cn) := hid (by rw [HS.out, if_neg hco]; rfl)
              have hd : (co == 12) = false := by simpa using hco
              go_wp2_with fail
              refine (l_btoi false _).mono ?_
              rintro e w' ⟨rfl, rfl⟩
              go_wp2
              go_roundw
              case rel => exact ⟨k + 1, by omega, by go_num, by first | (rw [HS'.out]; go_num) | rw [HS'.out], HK⟩
              case measure => simp [RowKit.intOf] <;> omega
          · obtain rfl : k = L.length := by omega
            have j1 : ¬ ((L.length : Int) < (L.length : Int)) := by omega
            have HCA : Hid (callI (L.take L.length) = callL (plL PX) (funs (plL PX))[q] (beZ (plL PX) ((funs (plL PX))[q] : Int)).toNat) := hid (by rw [List.take_length]; exact HN.out.ca)
            have hnc : callI (L.take L.length) ≤ 3000 := by rw [List.take_length]; have := callI_le L; omega
            have hL0 : 0 < L.length := HN.out.ne
            obtain ⟨hgl, hk0, hge, hel, _⟩ := fun_parts HPO.out (List.getElem_mem hlt)
            obtain ⟨gf, hfa, hgf, cf⟩ := (HRF.out.below (HBR5.out.trans (HK.out.mono HBR5.out.size))) q (by omega)
            have hfq : (funI (plL PX))[q]'(by omega) = ((funs (plL PX))[q] : Int) := by unfold funI; simp
            rw [hfq] at cf
            subst hfa
            obtain ⟨N, hN⟩ : ∃ n, callI (L.take L.length) = n := ⟨_, rfl⟩
            rw [hN] at HCA hnc ⊢
            obtain ⟨G, hG⟩ : ∃ n, (funs (plL PX))[q] = n := ⟨_, rfl⟩
            simp only [hG] at HCA cf hgl hk0 hge hel
            obtain ⟨EE, hEE⟩ := Int.eq_ofNat_of_zero_le (show 0 ≤ beZ (plL PX) (G : Int) by omega)
            rw [hEE, Int.toNat_natCast] at HCA
            have ENG := hid (fun (W : World) (hb : Below w3.heap.size w3 W) => EN.out W hb (G : Int))
            rw [hEE] at ENG hge hel
            have HDK := hid (HD5.out.trans (HK.out.mono HD5.out.size))
            have HBWK := hid (HBW5.out.trans (HK.out.mono HBW5.out.size))
            have HBRK := hid (HBR5.out.trans (HK.out.mono HBR5.out.size))
            obtain ⟨wk, hwk⟩ : ∃ W, wr = W := ⟨_, rfl⟩
            rw [hwk] at cf hgf HK HDK HBWK HBRK ⊢
            have CF := hid (fun (W : World) (hb : Below wk.heap.size wk W) => (hb.cell (p := ⟨gf, q, none⟩) hgf).trans cf)
            have HPX : Hid (PX.length = (plL PX).length) := hid (plL_length PX).symm
            have hEl : EE < PX.length := by have := HPX.out; omega
            have HME := hid (fun k h1 h2 => callL_mono (plL PX) G k h1 EE h2 (by omega))
            have HSN := hid (fun k h1 h2 => callL_snoc (plL PX) G k h1 h2)
            clear j1 hN hG hEE hwk hk0 HN CQ RI hfq
            go_wp2_with fail
            clear cf
            go_loopw [9, 11, 12] (fun cn k _ wr => ∃ k2 : Nat, G ≤ k2 ∧ k2 ≤ EE ∧ k = .int .i64 (k2 : Int) ∧ cn = .int .i64 ((N : Int) - (callL (plL PX) G k2 : Int)) ∧ Hid (Below wk.heap.size wk wr)) (fun _ k _ _ => EE - (RowKit.intOf k).toNat)
            case atStart => exact ⟨G, Nat.le_refl _, by omega, rfl, by rw [callL_end]; go_num, hid (Below.refl _ _)⟩
            case round =>
              obtain ⟨k2, hk2, hk3, rfl, rfl, HK2⟩ := hrel
              rename World => wc
              have cf := CF.out wc HK2.out
              have HD2 := hid (HDK.out.trans (HK2.out.mono HDK.out.size))
              have EQ := hid (ENG.out wc HD2.out)
              have HBW2 := hid (HBWK.out.trans (HK2.out.mono HBWK.out.size))
              go_wp2_with fail
              refine EQ.out.mono ?_
              rintro e wd ⟨rfl, bd⟩
              have HKd : Hid (Below wk.heap.size wk wd) := hid (HK2.out.trans (bd.mono HK2.out.size))
              have HD3 := hid (HDK.out.trans (HKd.out.mono HDK.out.size))
              have HBW3 := hid (HBWK.out.trans (HKd.out.mono HBWK.out.size))
              have hme := HME.out k2 hk2 hk3
              rw [← HCA.out] at hme
              clear bd cf EQ
              by_cases hkE : k2 < EE
              · have j1 : (k2 : Int) < (EE : Int) := by omega
                have hkx : k2 < PX.length := by omega
                have hkp : k2 < (plL PX).length := by have := HPX.out; omega
                have hsn := HSN.out k2 hk2 hkp
                have hme2 := HME.out (k2 + 1) (by omega) (by omega)
                rw [hsn, ← HCA.out] at hme2
                have HSN2 := hid hsn
                obtain ⟨gp, hpa, hgp, ⟨_, _, _, c3⟩, hm⟩ := (HPR.out.below HD3.out) k2 hkx
                obtain ⟨xa1, xb1, xc1, xd1, ea, ee, _, hrt, _, _⟩ := inMem_shape hm
                rw [ee] at c3
                have hpe : (plL PX)[k2].expr = PX[k2].expr := by rw [pl_at PX k2 hkx hkp]; rfl
                rw [hpe] at hme2 HSN2
                have HRT := hid hrt
                have C3 := hid (fun (W : World) (hb : Below wd.heap.size wd W) => (hb.cell (p := ⟨gp, k2 * 4 + 3, none⟩) hgp).trans c3)
                have hex : PX[k2].expr.length ≤ 20 := by
                  have h := line_small _ (HPO.out.1.2 _ (List.getElem_mem hkp))
                  have := ok_expr HPO.out hkp
                  rw [hpe] at this
                  rcases this with h | h
                  · rw [h]; simp
                  · exact (expr_len _ h).2
                have p0 : (0 : Int) ≤ (k2 : Int) := by omega
                have p1 : (k2 : Int) < (PX.length : Int) := by omega
                subst hpa
                generalize PX[k2].expr = ex at *
                obtain ⟨M, hM⟩ : ∃ n, callL (plL PX) G k2 = n := ⟨_, rfl⟩
                rw [hM] at hme hme2 HSN2 ⊢
                clear hm ea ee hrt hpe hM hsn
                go_wp2_with fail
                clear c3
                go_loopw [9, 12] (fun cn i wr => ∃ m : Nat, m ≤ ex.length ∧ i = .int .i64 (m : Int) ∧ cn = .int .i64 ((N : Int) - (M : Int) - (callT (ex.take m) : Int)) ∧ Hid (Below wd.heap.size wd wr)) (fun _ i _ => ex.length - (RowKit.intOf i).toNat)
                case atStart => exact ⟨0, Nat.zero_le _, rfl, by simp [callT], hid (Below.refl _ _)⟩
                case round =>
                  obtain ⟨m, hm, rfl, rfl, HM⟩ := hrel
                  have c3 := C3.out wr HM.out
                  have hct := callT_take_le ex m
                  by_cases hml : m < ex.length
                  · obtain ⟨gt, hxa, hgt, d0, _, _⟩ := (HRT.out.below HM.out) m hml
                    have HST := hid (callT_snoc ex m hml)
                    have hct2 := callT_take_le ex (m + 1)
                    have i0 : (0 : Int) ≤ (m : Int) := by omega
                    have i1 : (m : Int) < (ex.length : Int) := by omega
                    subst hxa
                    generalize ex[m].kind = kd at *
                    by_cases h7 : kd = 7
                    · subst h7
                      have HST2 : Hid (callT (ex.take (m + 1)) = callT (ex.take m) + 1) := hid (by rw [HST.out]; rfl)
                      obtain ⟨Q, hQ⟩ : ∃ n, callT (ex.take m) = n := ⟨_, rfl⟩
                      rw [hQ] at hct HST2 ⊢
                      rw [HST2.out] at hct2
                      clear hQ HST
                      obtain ⟨V, hV⟩ : ∃ v : Int, (N : Int) - (M : Int) - (Q : Int) = v := ⟨_, rfl⟩
                      have hv0 : 1 ≤ V := by omega
                      have hv1 : V ≤ 3000 := by omega
                      have HV := hid hV
                      rw [hV]
                      clear hV hct hct2 hme hme2
                      go_wp2_with fail
                      refine (l_btoi true _).mono ?_
                      rintro e w' ⟨rfl, rfl⟩
                      go_wp2
                      go_roundw
                      case rel => exact ⟨m + 1, by omega, by go_num, by rw [HST2.out]; have := HV.out; go_num, HM⟩
                      case measure => simp [RowKit.intOf] <;> omega
                    · have HST2 : Hid (callT (ex.take (m + 1)) = callT (ex.take m)) := hid (by rw [HST.out, if_neg h7]; rfl)
                      have hd : (kd == 7) = false := by simpa using h7
                      obtain ⟨Q, hQ⟩ : ∃ n, callT (ex.take m) = n := ⟨_, rfl⟩
                      rw [hQ] at hct HST2 ⊢
                      clear hQ HST
                      obtain ⟨V, hV⟩ : ∃ v : Int, (N : Int) - (M : Int) - (Q : Int) = v := ⟨_, rfl⟩
                      have hv0 : 0 ≤ V := by omega
                      have hv1 : V ≤ 3000 := by omega
                      have HV := hid hV
                      rw [hV]
                      clear hV hct hct2 hme hme2
                      go_wp2_with fail
                      refine (l_btoi false _).mono ?_
                      rintro e w' ⟨rfl, rfl⟩
                      go_wp2
                      go_roundw
                      case rel => exact ⟨m + 1, by omega, by go_num, by rw [HST2.out]; have := HV.out; go_num, HM⟩
                      case measure => simp [RowKit.intOf] <;> omega
                  · obtain rfl : m = ex.length := by omega
                    have i1 : ¬ (ex.length : Int) < (ex.length : Int) := by omega
                    have HKe : Hid (Below wk.heap.size wk wr) := hid (HKd.out.trans (HM.out.mono HKd.out.size))
                    have HTT : Hid (callT (ex.take ex.length) = callT ex) := hid (by rw [List.take_length])
                    clear hct hme hme2
                    go_wp2
                    go_roundw
                    case rel => exact ⟨k2 + 1, by omega, by omega, by go_num, by rw [HTT.out, HSN2.out]; go_num, HKe⟩
                    case measure => simp [RowKit.intOf] <;> omega
              · obtain rfl : k2 = EE := by omega
                have j1 : ¬ (k2 : Int) < (k2 : Int) := by omega
                have HZ0 : Hid ((N : Int) - (callL (plL PX) G k2 : Int) = 0) := hid (by rw [HCA.out]; omega)
                have HBRd : Hid (Below w4.heap.size w4 wd) := hid (HBRK.out.trans (HKd.out.mono HBRK.out.size))
                rw [HZ0.out]
                have l1 : ¬ ((L.length : Int) = 0) := by omega
                have l2 : (0 : Int) < (L.length : Int) := by omega
                clear hme
                go_wp2
                go_roundw
                case rel => exact ⟨q + 1, by omega, by go_num, HBRd⟩
                case measure => simp [RowKit.intOf] <;> omega
      · have k1 : ¬ ((q : Int) < ((funI (plL PX)).length : Int)) := by omega
        go_wp2
        go_ret
        exact ⟨rfl, HBW.out⟩
  | true =>
    have FP := hid (s_foldProgram (some ⟨g, 0, none⟩) cp X w2 (by omega) R2.out HZ.out)
    rw [(pokB_iff _).2 HOK.out, if_pos rfl] at FP
    go_wp2_with fail
    refine FP.out.mono ?_
    rintro e w3 ⟨v3, PX, rfl, O3, M3, yp, b3⟩
    obtain ⟨pa, pc, rfl⟩ := owns3_shape O3
    have HPO : Hid (OkI (plL PX)) := hid (by rw [yp]; exact ok_fold HOK.out)
    have HPR := hid (readL_of O3 M3.all)
    have HPC : Hid (PX.length ≤ pc) := hid (own_cap4 O3)
    have HPZ := hid (szal_ok4 HPO.out)
    have hpl : PX.length ≤ 60 := len_ok4 HPO.out
    have HB3 : Hid (Below w.heap.size w w3) := hid (HB2.out.trans (b3.mono hz2))
    have PB3 := hid ((b3.block _ (blk PB2.out).2.2).trans PB2.out)
    have HPF : Hid ((if true = true then foldP (plL PX) else plL PX) = plL PX) := hid (by rw [if_pos rfl, yp, foldP_again _ HOK.out.1.2])
    clear b3 O3 M3 yp FP q2 hz2
    have CO : Hid (∀ q, ∀ hq : q < (funs (plL PX)).length, ∃ L, NoInl (plL PX) (funs (plL PX))[q] L ∧ L.length ≤ 3000 ∧ ∀ W, Below w3.heap.size w3 W → Calls Tryz.prog 12 #[.slice pa PX.length pc, .int .i64 (q : Int), .agg #[.int .i64 fm, .int .i64 0, .bool true, .bool sp]] W (CompR L W)) := hid (fun q hq => by
      obtain ⟨L, hL, hN⟩ := comp_no HPO.out (frB fm q) (List.getElem_mem hq)
      refine ⟨L, hN, comp_len HPO.out (List.getElem_mem hq) (by omega) hL, fun W hW => ?_⟩
      exact i_compile0 pa pc PX (by omega) HPC.out W (HPR.out.below hW) HPZ.out (HSH.out W (HB3.out.trans (hW.mono HB3.out.size))) HPO.out q hq _ rfl fm ⟨m0, m1⟩ true sp L (by rw [HPF.out]; exact hL))
    have FL := hid (s_funLines pa pc PX w3 (by omega) HPR.out)
    have EN := hid (fun (W : World) (hb : Below w3.heap.size w3 W) (k : Int) => s_endOf pa pc PX k W (by omega) (HPR.out.below hb))
    have PB3r := hid (fun (W : World) (hb : Below w3.heap.size w3 W) => (hb.block _ (blk PB3.out).2.2).trans PB3.out)
    go_wp2_with fail
    refine FL.out.mono ?_
    rintro e w4 ⟨vf, rfl, HOF, b4⟩
    obtain ⟨fa, fc, rfl⟩ := owns_shape HOF
    have HRF := hid (readI_of HOF)
    have hfl : (funI (plL PX)).length = (funs (plL PX)).length := funI_length (plL PX)
    have hfn : (funs (plL PX)).length ≤ 6 := HPO.out.2.1.1
    have HB4 := hid b4
    have z4 := b4.size
    have HBW4 : Hid (Below w.heap.size w w4) := hid (HB3.out.trans (b4.mono HB3.out.size))
    clear b4 HOF FL
    go_wp2_with fail
    go_loopw [7, 8, 9, 10, 11, 12] (fun f _ _ _ _ _ wr => ∃ q : Nat, q ≤ (funs (plL PX)).length ∧ f = .int .i64 (q : Int) ∧ Hid (Below w4.heap.size w4 wr)) (fun f _ _ _ _ _ _ => (funs (plL PX)).length - (RowKit.intOf f).toNat)
    case atStart => exact ⟨0, Nat.zero_le _, rfl, hid (Below.refl _ _)⟩
    case round =>
      obtain ⟨q, hq, rfl, HBR⟩ := hrel
      rename World => wb
      have HD := hid (HB4.out.trans (HBR.out.mono z4))
      have HBW := hid (HBW4.out.trans (HBR.out.mono HBW4.out.size))
      by_cases hlt : q < (funs (plL PX)).length
      · have k0 : (0 : Int) ≤ (q : Int) := by omega
        have k1 : (q : Int) < ((funI (plL PX)).length : Int) := by omega
        obtain ⟨L, HN, hL3, CQ⟩ := CO.out q hlt
        have CQ := hid CQ
        have HN := hid HN
        obtain ⟨pb0, pb1, pb2, pb3⟩ := cells4 (PB3r.out wb HD.out)
        go_wp2_with fail
        refine (CQ.out _ HD.out).mono ?_
        rintro e w5 ⟨v5, X5, rfl, HO5, HX5, HM5, HB5⟩
        obtain ⟨xa, xc, rfl⟩ := own_sh HO5.out
        have hx5 : X5.length = L.length := by rw [← HX5, List.length_map]
        have RI := hid (readIt_of HO5.out HX5 HM5.out)
        rw [hx5]
        have HD5 := hid (HD.out.trans (HB5.out.mono HD.out.size))
        have HBW5 := hid (HBW.out.trans (HB5.out.mono HBW.out.size))
        have HBR5 := hid (HBR.out.trans (HB5.out.mono HBR.out.size))
        clear pb0 pb1 pb2 pb3 HO5 HX5 HM5 hx5
        go_wp2_with fail
        go_loopw [9, 10] (fun cn j wr => ∃ k : Nat, k ≤ L.length ∧ j = .int .i64 (k : Int) ∧ cn = .int .i64 (callI (L.take k) : Int) ∧ Hid (Below w5.heap.size w5 wr)) (fun _ j _ => L.length - (RowKit.intOf j).toNat)
        case atStart => exact ⟨0, Nat.zero_le _, rfl, rfl, hid (Below.refl _ _)⟩
        case round =>
          obtain ⟨k, hk, rfl, rfl, HK⟩ := hrel
          by_cases hkl : k < L.length
          · obtain ⟨gi, ya, yc, hga, hgi, c0, c1, c2, c3, c4⟩ := (RI.out.below HK.out) k hkl
            have hch := HN.out.ch _ (List.getElem_mem hkl)
            rw [hch] at c4
            have HS := hid (callI_snoc L k hkl)
            have hle := callI_le (L.take k)
            rw [List.length_take] at hle
            have j0 : (0 : Int) ≤ (k : Int) := by omega
            have j1 : (k : Int) < (L.length : Int) := by omega
            subst hga
            generalize L[k] = x at *
            obtain ⟨co, ar, li, st, ch, de, en⟩ := x
            dsimp only at c0 HS
            obtain ⟨cn, hcn⟩ : ∃ c, callI (L.take k) = c := ⟨_, rfl⟩
            rw [hcn] at HS hle ⊢
            have hc4 : cn ≤ 3000 := by omega
            clear c1 c2 c3 hcn hch
            by_cases hco : co = 12
            · subst hco
              have HS' : Hid (callI (L.take (k + 1)) = cn + 1) := hid (by rw [HS.out]; rfl)
              go_wp2_with fail
              refine (l_btoi true _).mono ?_
              rintro e w' ⟨rfl, rfl⟩
              go_wp2
              go_roundw
              case rel => exact ⟨k + 1, by omega, by go_num, by first | (rw [HS'.out]; go_num) | rw [HS'.out], HK⟩
              case measure => simp [RowKit.intOf] <;> omega
            · have HS' : Hid (callI (L.take (k + 1)) = cn) := hid (by rw [HS.out, if_neg hco]; rfl)
              have hd : (co == 12) = false := by simpa using hco
              go_wp2_with fail
              refine (l_btoi false _).mono ?_
              rintro e w' ⟨rfl, rfl⟩
              go_wp2
              go_roundw
              case rel => exact ⟨k + 1, by omega, by go_num, by first | (rw [HS'.out]; go_num) | rw [HS'.out], HK⟩
              case measure => simp [RowKit.intOf] <;> omega
          · obtain rfl : k = L.length := by omega
            have j1 : ¬ ((L.length : Int) < (L.length : Int)) := by omega
            have HCA : Hid (callI (L.take L.length) = callL (plL PX) (funs (plL PX))[q] (beZ (plL PX) ((funs (plL PX))[q] : Int)).toNat) := hid (by rw [List.take_length]; exact HN.out.ca)
            have hnc : callI (L.take L.length) ≤ 3000 := by rw [List.take_length]; have := callI_le L; omega
            have hL0 : 0 < L.length := HN.out.ne
            obtain ⟨hgl, hk0, hge, hel, _⟩ := fun_parts HPO.out (List.getElem_mem hlt)
            obtain ⟨gf, hfa, hgf, cf⟩ := (HRF.out.below (HBR5.out.trans (HK.out.mono HBR5.out.size))) q (by omega)
            have hfq : (funI (plL PX))[q]'(by omega) = ((funs (plL PX))[q] : Int) := by unfold funI; simp
            rw [hfq] at cf
            subst hfa
            obtain ⟨N, hN⟩ : ∃ n, callI (L.take L.length) = n := ⟨_, rfl⟩
            rw [hN] at HCA hnc ⊢
            obtain ⟨G, hG⟩ : ∃ n, (funs (plL PX))[q] = n := ⟨_, rfl⟩
            simp only [hG] at HCA cf hgl hk0 hge hel
            obtain ⟨EE, hEE⟩ := Int.eq_ofNat_of_zero_le (show 0 ≤ beZ (plL PX) (G : Int) by omega)
            rw [hEE, Int.toNat_natCast] at HCA
            have ENG := hid (fun (W : World) (hb : Below w3.heap.size w3 W) => EN.out W hb (G : Int))
            rw [hEE] at ENG hge hel
            have HDK := hid (HD5.out.trans (HK.out.mono HD5.out.size))
            have HBWK := hid (HBW5.out.trans (HK.out.mono HBW5.out.size))
            have HBRK := hid (HBR5.out.trans (HK.out.mono HBR5.out.size))
            obtain ⟨wk, hwk⟩ : ∃ W, wr = W := ⟨_, rfl⟩
            rw [hwk] at cf hgf HK HDK HBWK HBRK ⊢
            have CF := hid (fun (W : World) (hb : Below wk.heap.size wk W) => (hb.cell (p := ⟨gf, q, none⟩) hgf).trans cf)
            have HPX : Hid (PX.length = (plL PX).length) := hid (plL_length PX).symm
            have hEl : EE < PX.length := by have := HPX.out; omega
            have HME := hid (fun k h1 h2 => callL_mono (plL PX) G k h1 EE h2 (by omega))
            have HSN := hid (fun k h1 h2 => callL_snoc (plL PX) G k h1 h2)
            clear j1 hN hG hEE hwk hk0 HN CQ RI hfq
            go_wp2_with fail
            clear cf
            go_loopw [9, 11, 12] (fun cn k _ wr => ∃ k2 : Nat, G ≤ k2 ∧ k2 ≤ EE ∧ k = .int .i64 (k2 : Int) ∧ cn = .int .i64 ((N : Int) - (callL (plL PX) G k2 : Int)) ∧ Hid (Below wk.heap.size wk wr)) (fun _ k _ _ => EE - (RowKit.intOf k).toNat)
            case atStart => exact ⟨G, Nat.le_refl _, by omega, rfl, by rw [callL_end]; go_num, hid (Below.refl _ _)⟩
            case round =>
              obtain ⟨k2, hk2, hk3, rfl, rfl, HK2⟩ := hrel
              rename World => wc
              have cf := CF.out wc HK2.out
              have HD2 := hid (HDK.out.trans (HK2.out.mono HDK.out.size))
              have EQ := hid (ENG.out wc HD2.out)
              have HBW2 := hid (HBWK.out.trans (HK2.out.mono HBWK.out.size))
              go_wp2_with fail
              refine EQ.out.mono ?_
              rintro e wd ⟨rfl, bd⟩
              have HKd : Hid (Below wk.heap.size wk wd) := hid (HK2.out.trans (bd.mono HK2.out.size))
              have HD3 := hid (HDK.out.trans (HKd.out.mono HDK.out.size))
              have HBW3 := hid (HBWK.out.trans (HKd.out.mono HBWK.out.size))
              have hme := HME.out k2 hk2 hk3
              rw [← HCA.out] at hme
              clear bd cf EQ
              by_cases hkE : k2 < EE
              · have j1 : (k2 : Int) < (EE : Int) := by omega
                have hkx : k2 < PX.length := by omega
                have hkp : k2 < (plL PX).length := by have := HPX.out; omega
                have hsn := HSN.out k2 hk2 hkp
                have hme2 := HME.out (k2 + 1) (by omega) (by omega)
                rw [hsn, ← HCA.out] at hme2
                have HSN2 := hid hsn
                obtain ⟨gp, hpa, hgp, ⟨_, _, _, c3⟩, hm⟩ := (HPR.out.below HD3.out) k2 hkx
                obtain ⟨xa1, xb1, xc1, xd1, ea, ee, _, hrt, _, _⟩ := inMem_shape hm
                rw [ee] at c3
                have hpe : (plL PX)[k2].expr = PX[k2].expr := by rw [pl_at PX k2 hkx hkp]; rfl
                rw [hpe] at hme2 HSN2
                have HRT := hid hrt
                have C3 := hid (fun (W : World) (hb : Below wd.heap.size wd W) => (hb.cell (p := ⟨gp, k2 * 4 + 3, none⟩) hgp).trans c3)
                have hex : PX[k2].expr.length ≤ 20 := by
                  have h := line_small _ (HPO.out.1.2 _ (List.getElem_mem hkp))
                  have := ok_expr HPO.out hkp
                  rw [hpe] at this
                  rcases this with h | h
                  · rw [h]; simp
                  · exact (expr_len _ h).2
                have p0 : (0 : Int) ≤ (k2 : Int) := by omega
                have p1 : (k2 : Int) < (PX.length : Int) := by omega
                subst hpa
                generalize PX[k2].expr = ex at *
                obtain ⟨M, hM⟩ : ∃ n, callL (plL PX) G k2 = n := ⟨_, rfl⟩
                rw [hM] at hme hme2 HSN2 ⊢
                clear hm ea ee hrt hpe hM hsn
                go_wp2_with fail
                clear c3
                go_loopw [9, 12] (fun cn i wr => ∃ m : Nat, m ≤ ex.length ∧ i = .int .i64 (m : Int) ∧ cn = .int .i64 ((N : Int) - (M : Int) - (callT (ex.take m) : Int)) ∧ Hid (Below wd.heap.size wd wr)) (fun _ i _ => ex.length - (RowKit.intOf i).toNat)
                case atStart => exact ⟨0, Nat.zero_le _, rfl, by simp [callT], hid (Below.refl _ _)⟩
                case round =>
                  obtain ⟨m, hm, rfl, rfl, HM⟩ := hrel
                  have c3 := C3.out wr HM.out
                  have hct := callT_take_le ex m
                  by_cases hml : m < ex.length
                  · obtain ⟨gt, hxa, hgt, d0, _, _⟩ := (HRT.out.below HM.out) m hml
                    have HST := hid (callT_snoc ex m hml)
                    have hct2 := callT_take_le ex (m + 1)
                    have i0 : (0 : Int) ≤ (m : Int) := by omega
                    have i1 : (m : Int) < (ex.length : Int) := by omega
                    subst hxa
                    generalize ex[m].kind = kd at *
                    by_cases h7 : kd = 7
                    · subst h7
                      have HST2 : Hid (callT (ex.take (m + 1)) = callT (ex.take m) + 1) := hid (by rw [HST.out]; rfl)
                      obtain ⟨Q, hQ⟩ : ∃ n, callT (ex.take m) = n := ⟨_, rfl⟩
                      rw [hQ] at hct HST2 ⊢
                      rw [HST2.out] at hct2
                      clear hQ HST
                      obtain ⟨V, hV⟩ : ∃ v : Int, (N : Int) - (M : Int) - (Q : Int) = v := ⟨_, rfl⟩
                      have hv0 : 1 ≤ V := by omega
                      have hv1 : V ≤ 3000 := by omega
                      have HV := hid hV
                      rw [hV]
                      clear hV hct hct2 hme hme2
                      go_wp2_with fail
                      refine (l_btoi true _).mono ?_
                      rintro e w' ⟨rfl, rfl⟩
                      go_wp2
                      go_roundw
                      case rel => exact ⟨m + 1, by omega, by go_num, by rw [HST2.out]; have := HV.out; go_num, HM⟩
                      case measure => simp [RowKit.intOf] <;> omega
                    · have HST2 : Hid (callT (ex.take (m + 1)) = callT (ex.take m)) := hid (by rw [HST.out, if_neg h7]; rfl)
                      have hd : (kd == 7) = false := by simpa using h7
                      obtain ⟨Q, hQ⟩ : ∃ n, callT (ex.take m) = n := ⟨_, rfl⟩
                      rw [hQ] at hct HST2 ⊢
                      clear hQ HST
                      obtain ⟨V, hV⟩ : ∃ v : Int, (N : Int) - (M : Int) - (Q : Int) = v := ⟨_, rfl⟩
                      have hv0 : 0 ≤ V := by omega
                      have hv1 : V ≤ 3000 := by omega
                      have HV := hid hV
                      rw [hV]
                      clear hV hct hct2 hme hme2
                      go_wp2_with fail
                      refine (l_btoi false _).mono ?_
                      rintro e w' ⟨rfl, rfl⟩
                      go_wp2
                      go_roundw
                      case rel => exact ⟨m + 1, by omega, by go_num, by rw [HST2.out]; have := HV.out; go_num, HM⟩
                      case measure => simp [RowKit.intOf] <;> omega
                  · obtain rfl : m = ex.length := by omega
                    have i1 : ¬ (ex.length : Int) < (ex.length : Int) := by omega
                    have HKe : Hid (Below wk.heap.size wk wr) := hid (HKd.out.trans (HM.out.mono HKd.out.size))
                    have HTT : Hid (callT (ex.take ex.length) = callT ex) := hid (by rw [List.take_length])
                    clear hct hme hme2
                    go_wp2
                    go_roundw
                    case rel => exact ⟨k2 + 1, by omega, by omega, by go_num, by rw [HTT.out, HSN2.out]; go_num, HKe⟩
                    case measure => simp [RowKit.intOf] <;> omega
              · obtain rfl : k2 = EE := by omega
                have j1 : ¬ (k2 : Int) < (k2 : Int) := by omega
                have HZ0 : Hid ((N : Int) - (callL (plL PX) G k2 : Int) = 0) := hid (by rw [HCA.out]; omega)
                have HBRd : Hid (Below w4.heap.size w4 wd) := hid (HBRK.out.trans (HKd.out.mono HBRK.out.size))
                rw [HZ0.out]
                have l1 : ¬ ((L.length : Int) = 0) := by omega
                have l2 : (0 : Int) < (L.length : Int) := by omega
                clear hme
                go_wp2
                go_roundw
                case rel => exact ⟨q + 1, by omega, by go_num, HBRd⟩
                case measure => simp [RowKit.intOf] <;> omega
      · have k1 : ¬ ((q : Int) < ((funI (plL PX)).length : Int)) := by omega
        go_wp2
        go_ret
        exact ⟨rfl, HBW.out⟩
end Go.Proofs.YtaplbefdijcceaaGreatDoor.fnNoInline
