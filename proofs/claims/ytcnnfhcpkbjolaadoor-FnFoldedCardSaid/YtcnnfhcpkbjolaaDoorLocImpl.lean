/- The program's LocalsOf. -/
import Derived.Test.YtcnnfhcpkbjolaaDoorLocB
import Derived.Test.YtcnnfhcpkbjolaaDoorBeEnd
namespace Go.Proofs.YtcnnfhcpkbjolaaDoor
open Go.RowKit Go.Lib

set_option maxRecDepth 100000 in
set_option maxHeartbeats 4000000 in
theorem i_localsOf (a : Option Addr) (cap : Nat) (X : List LnL) (k : Int) (w : World) (hl : X.length ≤ 1048576) (hcap : X.length ≤ cap) (hr : ReadL 9 83 w a X) (hz : ∀ x ∈ X, x.args.length ≤ 1048576) :
    Calls Tryd.prog 90 #[.slice a X.length cap, .int .i64 k] w (StrR 9 w.heap.size (locZ (plL X) k) w) := by
  obtain ⟨i0, hi, hz0, hz1, hz2⟩ := info_parts infoS4
  have HR := Lib.hid hr
  have HZ := Lib.hid hz
  have hpl := plL_length X
  have S1 := Lib.hid (i_endOf a cap X k w (by omega) hr)
  clear hr hz
  by_cases hneg : beZ (plL X) k < 0
  · have HV := Lib.hid (locZ_none (plL X) k hneg)
    have hd : decide (beZ (plL X) k < 0) = true := decide_eq_true hneg
    generalize beZ (plL X) k = e at *
    clear hpl hneg
    go_enter Tryd.func90, Tryd.ntmps90
    go_wp2_with fail
    refine S1.out.mono ?_
    rintro _ w1 ⟨rfl, b1⟩
    have HB := Lib.hid b1
    clear b1
    go_wp2
    go_ret
    exact ⟨_, rfl, by rw [HV.out]; exact World.ownsRow_nil _ _ _ _, HB.out⟩
  have hd : decide (beZ (plL X) k < 0) = false := decide_eq_false hneg
  obtain ⟨j, rfl, hjp, hop, hje, hel⟩ := beZ_is (plL X) k (by omega)
  have hj : j < X.length := by omega
  have k0 : (0 : Int) ≤ (j : Int) := by omega
  have k1 : (j : Int) < (X.length : Int) := by omega
  obtain ⟨E, hE⟩ := Int.eq_ofNat_of_zero_le (show 0 ≤ beZ (plL X) (j : Int) by omega)
  obtain ⟨g, rfl, hg, ⟨c0, _, c2, _⟩, hm⟩ := HR.out j hj
  rw [hE] at S1 hd hje hel
  by_cases h0 : X[j].kind = 0
  · have HV := Lib.hid (locZ_from X j E hj hE h0)
    have hzz := HZ.out _ (List.getElem_mem hj)
    have HOA := Lib.hid hm.1
    rw [h0] at c0
    have hjE : j < E := by omega
    have hEl : E < X.length := by omega
    generalize X[j].args = gs at *
    generalize X[j].va = va at *
    clear hE hop h0 hneg hm
    go_enter Tryd.func90, Tryd.ntmps90
    go_wp2_with fail
    refine S1.out.mono ?_
    rintro _ w1 ⟨rfl, b1⟩
    have HB1 := Lib.hid b1
    have z1 := b1.size
    have c0' := (b1.cell (p := ⟨g, j * 4, none⟩) hg).trans c0
    have c2' : w1.cell? ⟨g, j * 4 + 2, none⟩ = some va := (b1.cell (p := ⟨g, j * 4 + 2, none⟩) hg).trans c2
    have HCL := Lib.hid (x_cloneS va gs w1 (owns_below HOA.out b1) hzz)
    clear b1 c0 c2 S1 HOA
    go_wp2_with fail
    refine HCL.out.mono ?_
    rintro _ w2 ⟨v, rfl, hown, b2⟩
    have HBx : Hid (Below w.heap.size w w2) := Lib.hid (HB1.out.trans (b2.mono z1))
    have HOx := Lib.hid (owns_lo hown z1)
    clear b2 hown c0' c2' HCL
    have k5 : (E : Int) ≤ (cap : Int) := by omega
    have k6 : (j : Int) ≤ (E : Int) := by omega
    have eE : (E : Int) - (j : Int) = ((E - j : Nat) : Int) := by omega
    go_wp2_with fail
    go_loopw [6, 8, 33] (fun v _ i wr => ∃ (d : Nat) (P : List ByteArray), d ≤ E - j ∧ i = .int .i64 (d : Int) ∧ Hid (locF P (segZ (plL X) (j + d) E) = locZ (plL X) (j : Int)) ∧ P.length ≤ 1048576 + d ∧ wr.ownsRow w.heap.size 9 1 v P.length (strV P) ∧ Below w.heap.size w wr) (fun _ _ i _ => (E - j) - (RowKit.intOf i).toNat)
    case atStart => exact ⟨0, gs, Nat.zero_le _, rfl, Lib.hid (by rw [Nat.add_zero]; exact HV.out.symm), by omega, HOx.out, HBx.out⟩
    case round =>
      obtain ⟨d, P, hdE, rfl, HE, hP, hownr, hbel⟩ := hrel
      have HB := Lib.hid hbel
      have hB := hbel.size
      by_cases hlt : d < E - j
      · have hqx : j + d < X.length := by omega
        obtain ⟨g', hga, hg', ⟨c0, c1, c2, c3⟩, hm⟩ := (HR.out.below hbel) (j + d) hqx
        injection hga with hga
        injection hga with hga
        subst hga
        have HY := Lib.hid (fun h1 h2 => (locF_yes X P (j + d) E hqx (by omega) h1 h2).symm.trans HE.out)
        have HNO := Lib.hid (fun h => (locF_no X P (j + d) E hqx (by omega) h).symm.trans HE.out)
        obtain ⟨xa, xb, xc, xd, ea, ee, _, _, _, _⟩ := inMem_shape hm
        rw [ea] at c2
        rw [ee] at c3
        rw [show (j + d) * 4 = j * 4 + d * 4 from by omega] at c0 c1 c2 c3
        have k3 : (0 : Int) ≤ (d : Int) := by omega
        have k4 : (d : Int) < ((E - j : Nat) : Int) := by omega
        obtain ⟨av, cv, rfl⟩ := owns_shape hownr
        have HIL := Lib.hid (rfl : memB P X[j + d].name = memB P X[j + d].name)
        have HOr := Lib.hid hownr
        have HIX := Lib.hid (fun W (hb : Below wr.heap.size wr W) => x_containsS av cv P X[j + d].name W (reads_of (owns_below hownr hb)) (by omega))
        generalize X[j + d].kind = kd at *
        generalize X[j + d].name = nm at *
        generalize X[j + d].args.length = na at *
        generalize X[j + d].expr.length = ne at *
        have HB1r : Hid (Below wr.heap.size wr (wr.alloc (.cells #[.int .i64 kd, .string nm, .slice xa na xc, .slice xb ne xd] 48))) := Lib.hid ((Below.refl _ _).alloc (Nat.le_refl _) _)
        have zr : (wr.alloc (.cells #[.int .i64 kd, .string nm, .slice xa na xc, .slice xb ne xd] 48)).heap.size = wr.heap.size + 1 := by simp
        have X0 := Lib.hid (heap_alloc_new wr (.cells #[.int .i64 kd, .string nm, .slice xa na xc, .slice xb ne xd] 48))
        clear hbel hownr hm ea ee HIL
        by_cases hk : kd = 1
        · subst hk
          obtain ⟨b, hb⟩ : ∃ b, memB P nm = b := ⟨_, rfl⟩
          rw [hb] at HIX HY HNO
          clear hb
          have HIX1 := Lib.hid (HIX.out _ HB1r.out)
          cases b
          · have HN := Lib.hid (HY.out rfl rfl)
            have h63 : P.length + 1 ≤ maxLen := by unfold maxLen; omega
            have hby : (P.length + 1) * 16 ≤ 140737488355328 := by omega
            clear HY HNO HIX
            go_wp2_with fail
            refine HIX1.out.mono ?_
            rintro _ w2 ⟨rfl, b2⟩
            have HBr2 : Hid (Below wr.heap.size wr w2) := Lib.hid (HB1r.out.trans (b2.mono (by omega)))
            have hown2 := owns_below HOr.out HBr2.out
            have HB2r : Hid (Below w.heap.size w w2) := Lib.hid (HB.out.trans (HBr2.out.mono hB))
            have z2 := HB2r.out.size
            have d1 : w2.cell? ⟨wr.heap.size, 1, none⟩ = some (.string nm) := (blk ((b2.block _ (by omega)).trans X0.out)).1 1 _ rfl
            clear b2 c0 c1 c2 c3
            go_wp2_with (at_builtin; refine wpList_append_own _ rfl _ _ 45 rfl w.heap.size 9 i0 (.string ⟨#[]⟩) 1 16 Tryd.underlying45 hi hz0 hz1 hz2 rfl (by decide) _ _ _ rfl (hown2.alloc _) ⟨w2.heap.size, 0, none⟩ 1 1 [.string nm] rfl rfl ?c1 ?c2 h63 hby ?c5 ?_)
            case c1 => exact cell_one_new _ _ _
            case c2 => intro u hu; simp at hu; subst hu; rfl
            case c5 => simp; omega
            intro v' w3 hown1 hgrow _
            have HO4 := Lib.hid (owns_strs (l := P ++ [nm]) hown1 (by rw [strV_append]; rfl))
            have HB3 := Lib.hid (below_app5 hown2 HB2r.out z2 hgrow)
            clear hown1 hgrow hown2 d1
            go_wp2
            go_roundw
            case rel => exact ⟨d + 1, P ++ [nm], by omega, by go_num, HN, by simp; omega, HO4.out, HB3.out⟩
            case measure => simp [RowKit.intOf]; omega
          · have HN := Lib.hid (HNO.out (not_and_mem (.inr rfl)))
            clear HY HNO HIX
            go_wp2_with fail
            refine HIX1.out.mono ?_
            rintro _ w2 ⟨rfl, b2⟩
            have HBr2 : Hid (Below wr.heap.size wr w2) := Lib.hid (HB1r.out.trans (b2.mono (by omega)))
            have HOr2 := Lib.hid (owns_below HOr.out HBr2.out)
            have HB2r : Hid (Below w.heap.size w w2) := Lib.hid (HB.out.trans (HBr2.out.mono hB))
            clear b2 c0 c1 c2 c3
            go_wp2
            go_roundw
            case rel => exact ⟨d + 1, P, by omega, by go_num, HN, by omega, HOr2.out, HB2r.out⟩
            case measure => simp [RowKit.intOf]; omega
        · have HN := Lib.hid (HNO.out (not_and_mem (.inl hk)))
          have hdk : (kd == 1) = false := by simpa using hk
          have HOr2 := Lib.hid (owns_below HOr.out HB1r.out)
          have HB2r := Lib.hid (HB.out.trans (HB1r.out.mono hB))
          clear HY HNO HIX hk
          go_wp2
          go_roundw
          case rel => exact ⟨d + 1, P, by omega, by go_num, HN, by omega, HOr2.out, HB2r.out⟩
          case measure => simp [RowKit.intOf]; omega
      · have hqq : d = E - j := by omega
        subst hqq
        have HE' : Hid (P = locZ (plL X) (j : Int)) := Lib.hid (by rw [← HE.out, show j + (E - j) = E from by omega, seg_end]; rfl)
        have HOr := Lib.hid hownr
        clear hbel hownr
        go_wp2
        go_ret
        exact ⟨_, rfl, by rw [← HE'.out]; exact HOr.out, HB.out⟩
  · have HV := Lib.hid (locZ_other (plL X) j (by rw [lkZ_at _ _ hjp, pl_kind X j hj]; exact h0))
    have a0 : (X[j].kind != 0) = true := by simpa using h0
    generalize X[j].kind = kd at *
    clear hE h0 hneg hop c2 hm
    go_enter Tryd.func90, Tryd.ntmps90
    go_wp2_with fail
    refine S1.out.mono ?_
    rintro _ w1 ⟨rfl, b1⟩
    have HB1 := Lib.hid b1
    have z1 := b1.size
    have c0' := (b1.cell (p := ⟨g, j * 4, none⟩) hg).trans c0
    clear b1 c0
    go_wp2
    go_ret
    exact ⟨_, rfl, by rw [HV.out]; exact World.ownsRow_nil _ _ _ _, HB1.out⟩
end Go.Proofs.YtcnnfhcpkbjolaaDoor
