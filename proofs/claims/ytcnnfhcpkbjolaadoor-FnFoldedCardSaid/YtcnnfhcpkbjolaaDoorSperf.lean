/- The model's perform: a function's lines, if its expressions are known. -/
import Derived.Test.YtcnnfhcpkbjolaaDoorSeval
import Derived.Test.YtcnnfhcpkbjolaaDoorPlainR
import Derived.Deep.CutBlock
namespace Go.Proofs.YtcnnfhcpkbjolaaDoor
open Go.RowKit Go.Lib

def natI (l : List Nat) : List Int := l.map fun (n : Nat) => (n : Int)
theorem lt_of_cell {w : World} {a : Addr} {v : Value} (h : w.cell? a = some v) : a.block < w.heap.size := World.block_lt_of_cell? w a h
def sliceLen : Value → Nat | .slice _ n _ => n | _ => 0
theorem natI_append (a b : List Nat) : natI (a ++ b) = natI a ++ natI b := by simp [natI]
theorem natI_length (a : List Nat) : (natI a).length = a.length := by simp [natI]
theorem neP : 9 ≠ 58 ∧ 3 ≠ 9 ∧ 28 ≠ 9 := by decide

set_option maxRecDepth 100000 in
set_option maxHeartbeats 16000000 in
theorem s_perf_step (B rb : Nat) (pa : Option Addr) (pc : Nat) (PX : List LnL) (lim : Nat) (wb : World) (hp : ProgS B pa PX wb) (hlim : lim ≤ 1000) (N : Nat) (ihE : ∀ m, m < N → SEvalOk B rb pa pc PX lim wb m) : SPerfOk B rb pa pc PX lim wb N := by
  intro c f ws s r s' w aa ac ov vv cv X hrun hc6 hfun hws hvis hvo hS hB hAo hAO
  have IHE := Lib.hid ihE
  have HP := Lib.hid hp
  have HRUN := Lib.hid hrun
  have HS := Lib.hid hS
  have HB := Lib.hid hB
  have HFUN := Lib.hid hfun
  have HAo := Lib.hid hAo
  have HOUTS := Lib.hid (run_outs (plL PX) appZ arN lim)
  obtain ⟨I0, hi, hz0, hz1, hz2⟩ := info_parts infoIS
  have hPX : PX.length ≤ 60 := by have := hp.ok.1.1; rwa [plL_length] at this
  obtain ⟨hfl, hf0, hfe, hel, hloc⟩ := fun_parts hp.ok hfun
  obtain ⟨_, hargs, hpre, ha4, hnd⟩ := loc_args hp.ok hfun
  have hL8 := loc_len hp.ok hfun
  rw [plL_length] at hfl hel
  obtain ⟨E, hE⟩ := Int.eq_ofNat_of_zero_le (show 0 ≤ beZ (plL PX) (f : Int) by omega)
  have hwl : ws.length ≤ (locZ (plL PX) (f : Int)).length := by rw [hws, hargs]; exact hpre.length_le
  have HCV := Lib.hid (callVars_length hwl)
  have HCVd : Hid (callVars (plL PX) f ws = ws ++ List.replicate ((locZ (plL PX) (f : Int)).length - ws.length) 0) := Lib.hid rfl
  have HR := Lib.hid (hp.read.below (hp.base ▸ hB))
  have hsz : ∀ x ∈ PX, x.args.length ≤ 1048576 := fun x hx => by
    have h1 : x.p ∈ plL PX := List.mem_map_of_mem hx
    have h := ((lineB_iff _).1 (hp.ok.1.2 _ h1)).2.2.1
    have h2 := (af_small _ _ h).1
    have h3 : x.p.args = x.args := rfl
    rw [h3] at h2
    omega
  have HLOC := Lib.hid (s_localsOf pa pc PX (f : Int) w (by omega) HR.out hsz)
  have HEND := Lib.hid (fun W (hb : Below w.heap.size w W) => s_endOf pa pc PX (f : Int) W (by omega) (HR.out.below hb))
  rw [hE] at HEND hfe hel
  have HE := Lib.hid hE
  have e0 : w.cell? ⟨rb, 0, none⟩ = some (.slice pa PX.length pc) := (blk hS.row).1 0 _ rfl
  obtain ⟨L, hL⟩ : ∃ L, locZ (plL PX) (f : Int) = L := ⟨_, rfl⟩
  rw [hL] at HLOC hL8 hwl HCV HCVd HRUN
  have HL := Lib.hid hL
  have hfE : f < E := by omega
  have hEl : E < PX.length := by omega
  have HNEWS := Lib.hid (own_newsI hAo)
  clear hrun hS hB hfun hp ihE hAo hloc hargs hpre hnd hf0 hws hE hL hfe hel hsz ha4
  go_enter Tryd.func33, Tryd.ntmps33
  go_wp2_with fail
  refine HLOC.out.mono ?_
  rintro e w1 ⟨lo, rfl, hlo, b1⟩
  have HLO := Lib.hid hlo
  have HB1 := Lib.hid b1
  have z1 := b1.size
  have e01 : w1.cell? ⟨rb, 0, none⟩ = some (.slice pa PX.length pc) := (blk (HS.out.below b1).row).1 0 _ rfl
  clear b1 hlo HLOC e0
  go_upto_region 2 with fail
  have HB1c : Hid (Below w.heap.size w (w1.alloc (.cells #[] 3))) := Lib.hid (HB1.out.alloc z1 _)
  have hown0 := World.ownsRow_lit (e := 3) (size := 1) (base := w.heap.size) w1 #[] 0 z1 (by decide) rfl
  obtain ⟨v2, w2, hap, O2, G2⟩ : ∃ v' W', (Builtin.append_ #[28, 28] 28 #[.slice (some ⟨w1.heap.size, 0, none⟩) 0 0, .slice aa ws.length ac]).run Tryd.prog (w1.alloc (.cells #[] 3)) = .ok v' W' ∧ W'.ownsRow w.heap.size 3 1 v' ws.length (intV ws) ∧ (w1.alloc (.cells #[] 3)).grownBy W' (some w1.heap.size) := by
    rcases HNEWS.out with ⟨ha, hw0⟩ | ⟨ga, ca, ha, hn⟩
    · rw [ha, hw0]
      exact ⟨_, _, run_append_owned_none (P := Tryd.prog) (w1.alloc (.cells #[] 3)) w.heap.size 28 28 3 I0 1 Tryd.underlying28 hi _ 0 _ hown0, hown0, World.grownBy.refl _ _⟩
    · rw [ha]
      obtain ⟨v', w', hr, h2, h3, _⟩ := run_append_own (P := Tryd.prog) (w1.alloc (.cells #[] 3)) w.heap.size 28 28 3 I0 (.int .i64 0) 1 8 Tryd.underlying28 hi hz0 hz1 hz2 rfl (by decide) _ 0 [] hown0 ⟨ga, 0, none⟩ ws.length ca (intV ws) (by rw [intV_length]; omega) (fun j u h => by
        have h1 := hn j u h
        exact (HB1c.out.cell (p := (⟨ga, 0, none⟩ : Addr).add j) (lt_of_cell h1)).trans h1) (intV_all ws) (by unfold maxLen; omega) (by omega) (by simp; omega)
      exact ⟨v', w', hr, by simpa using h2, h3⟩
  have HV2 := Lib.hid O2
  have HB2 : Hid (Below w.heap.size w w2) := Lib.hid (HB1c.out.grown G2 (by simp; omega) (fun q hq => by injection hq with hq; omega))
  have HLO2 := Lib.hid (far (HLO.out.alloc (.cells #[] 3)) G2 (fun g e e' => ap_types (HLO.out.alloc (.cells #[] 3)) hown0 (by decide) g e (by injection e' with e'; rw [← e']; rfl)))
  have HAP := Lib.hid hap
  clear O2 G2 hown0 HNEWS HB1c HLO HB1 HAo hap
  go_upto_block 0 with (at_builtin; refine wpList_append_run rfl _ _ 28 rfl _ _ _ rfl rfl HAP.out ?_)
  go_cut [8] (fun v wx => ∃ vc, v = vc ∧ Hid (wx.ownsRow w.heap.size 3 1 vc L.length (intV (callVars (plL PX) f ws))) ∧ Hid (Below w.heap.size w wx) ∧ Hid (wx.ownsRow w.heap.size 9 1 lo L.length (strV L)))
  case first =>
    go_wp2_with fail
    go_loopw [8] (fun v wr => ∃ q : Nat, ws.length + q ≤ L.length ∧ wr.ownsRow w.heap.size 3 1 v (ws.length + q) (intV (ws ++ List.replicate q 0)) ∧ Hid (Below w.heap.size w wr) ∧ Hid (wr.ownsRow w.heap.size 9 1 lo L.length (strV L))) (fun v _ => L.length - sliceLen v)
    case atStart => exact ⟨0, by omega, by simpa using HV2.out, HB2, HLO2⟩
    case round =>
      obtain ⟨q, hq, hown, HBr, HLr⟩ := hrel
      obtain ⟨av, cv2, rfl⟩ := owns_shape hown
      obtain ⟨al, cl, rfl⟩ := owns_shape HLr.out
      have HO := Lib.hid hown
      have zr := HBr.out.size
      by_cases hlt : ws.length + q < L.length
      · have h1 : (ws.length : Int) + (q : Int) < (L.length : Int) := by omega
        have h63 : ws.length + q + 1 ≤ maxLen := by unfold maxLen; omega
        have hby : (ws.length + q + 1) * 8 ≤ 140737488355328 := by omega
        go_wp2_with (at_builtin; refine wpList_append_own _ rfl _ _ 28 rfl w.heap.size 3 I0 (.int .i64 0) 1 8 Tryd.underlying28 hi hz0 hz1 hz2 rfl (by decide) _ _ _ rfl (hown.alloc _) ⟨wr.heap.size, 0, none⟩ 1 1 [.int .i64 0] rfl rfl ?c1 ?c2 h63 hby ?c5 ?_)
        case c1 => exact cell_one_new _ _ _
        case c2 => intro u hu; simp at hu; subst hu; rfl
        case c5 => simp; omega
        intro v' w3 hown1 hgrow _
        have HO3 : Hid (w3.ownsRow w.heap.size 3 1 v' (ws.length + (q + 1)) (intV (ws ++ List.replicate (q + 1) 0))) := Lib.hid (by
          have e : intV (ws ++ List.replicate q 0) ++ [Value.int .i64 0] = intV (ws ++ List.replicate (q + 1) 0) := by
            rw [List.replicate_succ', ← List.append_assoc, intV_append _ [0]]
            rfl
          rw [← e]
          exact hown1)
        have HB3 := Lib.hid (below_app' hown HBr.out zr hgrow)
        have HL3 := Lib.hid (far (HLr.out.alloc (.cells #[.int .i64 0] 3)) hgrow (fun g e e' => ap_types (HLr.out.alloc (.cells #[.int .i64 0] 3)) (hown.alloc (.cells #[.int .i64 0] 3)) (by decide) g e e'))
        obtain ⟨av', cv', rfl⟩ := owns_shape hown1
        clear hown1 hgrow hown
        go_wp2
        go_roundw
        case rel => exact ⟨q + 1, by omega, HO3.out, HB3, HL3⟩
        case measure => simp [sliceLen]; omega
      · have h1 : ¬ (ws.length : Int) + (q : Int) < (L.length : Int) := by omega
        have hqq : ws.length + q = L.length := by omega
        have HO3 : Hid (wr.ownsRow w.heap.size 3 1 (.slice av (ws.length + q) cv2) L.length (intV (callVars (plL PX) f ws))) := Lib.hid (by
          rw [HCVd.out, show L.length - ws.length = q from by omega, ← hqq]
          exact hown)
        clear hown hqq
        go_wp2_with fail
        go_meet
        exact ⟨_, rfl, HO3, HBr, HLr⟩
  case rest =>
  obtain ⟨vc, rfl, HV3, HB3, HLO3⟩ := hcut
  rename World => w3
  have e03 : w3.cell? ⟨rb, 0, none⟩ = some (.slice pa PX.length pc) := (blk (HS.out.below HB3.out).row).1 0 _ rfl
  have z3 := HB3.out.size
  go_wp2_with fail
  refine (HEND.out _ HB3.out).mono ?_
  rintro e w4 ⟨rfl, b4⟩
  have HB4 : Hid (Below w.heap.size w w4) := Lib.hid (HB3.out.trans (b4.mono z3))
  have HV4 := Lib.hid (owns_below HV3.out b4)
  have HLO4 := Lib.hid (owns_below HLO3.out b4)
  have z4 := HB4.out.size
  clear b4 e03
  have HB5 : Hid (Below w.heap.size w (w4.alloc (.cells #[] 3))) := Lib.hid (HB4.out.alloc z4 _)
  have PF0 : Hid (PfR 58 3 28 9 B rb (.slice pa PX.length pc) (lim : Int) c w.heap.size L lo u8 (.slice (some ⟨w4.heap.size, 0, none⟩) 0 0) (natI (encl (plL PX) f (f + 1))) (callVars (plL PX) f ws) s ov vv cv X (w4.alloc (.cells #[] 3))) := Lib.hid (by
    rw [encl_first]
    refine ⟨HS.out.below HB5.out, HLO4.out.alloc _, ?_, World.ownsRow_lit (e := 3) (size := 1) (base := w.heap.size) w4 #[] 0 z4 (by decide) rfl, HS.out.off_new (fun g hg => (HV4.out.lt g hg).1), HS.out.off_new (fun g hg => ?_), fun g hg e => ?_⟩
    · have h := HV4.out.alloc (.cells #[] 3)
      rw [← HCV.out] at h
      exact h
    · simp only [Value.ownBlock, Option.some.injEq] at hg; omega
    · have h1 := (HV4.out.lt g hg).2
      simp only [Value.ownBlock, Option.some.injEq] at e; omega)
  have HST0 : Hid (Step rb (RM ov vv cv X) (RM ov vv cv X) w (w4.alloc (.cells #[] 3))) := Lib.hid (Step.of_below HB5.out)
  clear HV3 HLO3 HV4 HLO4 HV2 HLO2 HB2 HB3 HEND
  go_wp2_with fail
  go_loopg [10, 11] N (fun gk lv kv wr => ∃ (k : Nat) (vs : List Int) (st : RunS) (ov' vv' cv' : Value) (X' : List IvL), kv = .int .i64 (k : Int) ∧ f < k ∧ gk ≤ N ∧ Hid (runF (plL PX) appZ arN lim gk (.lines c f L vs k) st = some (r, s')) ∧ Hid (vs.length = L.length) ∧ Hid (st.vis.length ≤ lim ∧ st.out.length ≤ st.vis.length) ∧
      Hid (PfR 58 3 28 9 B rb (.slice pa PX.length pc) (lim : Int) c w.heap.size L lo u8 lv (natI (encl (plL PX) f k)) vs st ov' vv' cv' X' wr) ∧ Hid (Step rb (RM ov vv cv X) (RM ov' vv' cv' X') w wr))
  case atStart => exact ⟨f + 1, callVars (plL PX) f ws, s, ov, vv, cv, X, by push_cast; rfl, by omega, Nat.le_refl _, HRUN, HCV, Lib.hid ⟨hvis, hvo⟩, PF0, HST0⟩
  case round =>
    obtain ⟨k, vs, st, ov', vv', cv', X', rfl, hfk, hgk, HRN, HVS, HVL, HPF, HSTP⟩ := hrel
    have e0 : wr.cell? ⟨rb, 0, none⟩ = some (.slice pa PX.length pc) := (blk HPF.out.run.row).1 0 _ rfl
    by_cases hlt : k < E
    · obtain ⟨gk', rfl⟩ : ∃ n, gk = n + 1 := by
        cases gk with
        | zero => exact (no_fuel HRN.out).elim
        | succ n => exact ⟨n, rfl⟩
      have hkl : k < PX.length := by omega
      have hkp : k < (plL PX).length := by rw [plL_length]; exact hkl
      have HKE : Hid ((k : Int) < beZ (plL PX) (f : Int)) := Lib.hid (by rw [HE.out]; omega)
      have HBr : Hid (Below B wb wr) := Lib.hid (HB.out.trans (HS.out.base HSTP.out))
      have HRD := Lib.hid (HP.out.read.below (HP.out.base ▸ HBr.out))
      obtain ⟨g, hga, hg, ⟨c0, c1, c2, c3⟩, hm⟩ := HRD.out k hkl
      obtain ⟨xa, xb, xc, xd, ea, ee, _, _, _, _⟩ := inMem_shape hm
      rw [ea] at c2
      rw [ee] at c3
      have HLK : Hid (lkZ (plL PX) (k : Int) = PX[k].kind) := Lib.hid (by rw [lkZ_at _ _ hkp, pl_kind PX k hkl])
      have HKD := Lib.hid (kinds_in HP.out.ok HFUN.out hfk HKE.out hkp)
      have HNM : Hid (nameAt (plL PX) k = PX[k].name) := Lib.hid (by unfold nameAt; rw [List.getElem?_eq_getElem hkp, pl_at PX k hkl]; rfl)
      have HNL : Hid (PX[k].kind = 1 → PX[k].name ∈ L) := Lib.hid (fun h1 => by
        have h := loc_set HP.out.ok HFUN.out hfk HKE.out hkp (by rw [pl_at PX k hkl]; exact h1)
        rw [pl_at PX k hkl, HL.out] at h
        exact h)
      have HKK : Hid (1 ≤ PX[k].kind ∧ PX[k].kind ≤ 7) := Lib.hid (by have h := HKD.out; rw [pl_at PX k hkl] at h; exact h)
      have HTOK : Hid (∀ t ∈ exprAt (plL PX) k, knownP (plL PX) L t) := Lib.hid (fun t ht => by
        rw [exprAt_get _ _ hkp] at ht
        have h := line_in HP.out.ok HFUN.out hfk HKE.out hkp t ht
        rw [HL.out] at h
        exact h)
      have HEXP : Hid (PX[k].kind ≠ 4 → PX[k].kind ≠ 7 → ∃ q, scanN ((exprAt (plL PX) k).drop 0) 1 = some q) := Lib.hid (fun h4 h7 => by
        have hb := HP.out.ok.1.2 _ (List.getElem_mem hkp)
        have h := ((lineB_iff _).1 hb).2.2.2
        rw [exprAt_get _ _ hkp]
        have hx := line_expr _ hb
        rw [pl_at PX k hkl] at h hx ⊢
        refine ⟨_, expr_scan _ (hx.resolve_left (fun h0 => ?_))⟩
        have hkk := HKK.out
        have hek : exprK PX[k].kind = true := by
          have : PX[k].kind = 1 ∨ PX[k].kind = 2 ∨ PX[k].kind = 3 ∨ PX[k].kind = 5 ∨ PX[k].kind = 6 := by omega
          rcases this with e | e | e | e | e <;> rw [e] <;> rfl
        have h' : efB (exprK PX[k].kind) PX[k].expr = true := h
        have h0' : PX[k].expr = [] := h0
        rw [hek, h0'] at h'
        exact absurd h' (by decide))
      have HPX := Lib.hid (HPF.out.below ((Below.refl wr.heap.size wr).alloc (Nat.le_refl _) (.cells #[.int .i64 PX[k].kind, .string PX[k].name, .slice xa PX[k].args.length xc, .slice xb PX[k].expr.length xd] 48)))
      have HX := Lib.hid (heap_alloc_new wr (.cells #[.int .i64 PX[k].kind, .string PX[k].name, .slice xa PX[k].args.length xc, .slice xb PX[k].expr.length xd] 48))
      have k0 : (0 : Int) ≤ (k : Int) := by omega
      have k1 : (k : Int) < (PX.length : Int) := by omega
      have k2 : (k : Int) < (E : Int) := by omega
      subst hga
      generalize PX[k].kind = kd at *
      generalize PX[k].name = nm at *
      generalize PX[k].args.length = na at *
      generalize PX[k].expr.length = ne at *
      clear hm ea ee HKD hg
      have HB1 : Hid (Below wr.heap.size wr (wr.alloc (.cells #[.int .i64 kd, .string nm, .slice xa na xc, .slice xb ne xd] 48))) := Lib.hid ((Below.refl _ _).alloc (Nat.le_refl _) _)
      have zx : (wr.alloc (.cells #[.int .i64 kd, .string nm, .slice xa na xc, .slice xb ne xd] 48)).heap.size = wr.heap.size + 1 := by simp
      have HST1 := Lib.hid (HSTP.out.on HB1.out)
      have HNO : Hid (¬ beZ (plL PX) (f : Int) ≤ (k : Int)) := Lib.hid (by have := HKE.out; omega)
      by_cases h4 : kd = 4
      · as_aux_lemma =>
          subst h4
          have hj := else_jump HP.out.ok hkp (by have h := HLK.out; rwa [lkZ_at _ _ hkp] at h)
          have HFI : Hid (∀ q : Nat, q < elseOpen (plL PX) k → elseZ (plL PX) (q : Int) ≠ (k : Int)) := Lib.hid (fun q hq => by
            have h := List.not_of_lt_findIdx (p := fun (i : Nat) => decide (elseZ (plL PX) (i : Int) = (k : Int))) (xs := List.range k) hq
            intro e
            rw [List.getElem_range] at h
            simp [e] at h)
          have HNX := Lib.hid (lines_else HRN.out HNO.out (HLK.out))
          obtain ⟨o, ho⟩ : ∃ o, elseOpen (plL PX) k = o := ⟨_, rfl⟩
          have hfo : f < o := by
            have h := else_in HP.out.ok HFUN.out hfk HKE.out hkp (by have h := HLK.out; rwa [lkZ_at _ _ hkp] at h)
            rwa [ho] at h
          rw [ho] at hj HFI HNX
          obtain ⟨bo, hbo⟩ := Int.eq_ofNat_of_zero_le (show 0 ≤ beZ (plL PX) (o : Int) by omega)
          have HEO := Lib.hid hj.2.1
          have hok : o < k := hj.1
          have hkb : k < bo := by omega
          have HB4 : Hid (∀ q : Nat, elseZ (plL PX) (q : Int) ≠ (bo : Int)) := Lib.hid (fun q e => by
            have h1 := elseZ_4 e
            have h2 := beZ_7 (plL PX) (o : Int) (by omega)
            rw [hbo, h1] at h2
            exact absurd h2 (by decide))
          have HEN := Lib.hid (encl_else (f := f) HLK.out hj.1 hj.2.1 hj.2.2)
          rw [hbo] at HNX HEN
          have SEL := Lib.hid (fun W (hb : Below wr.heap.size wr W) (q : Nat) => s_elseOf (some ⟨g, 0, none⟩) pc PX (q : Int) W (by omega) (HRD.out.below hb))
          have SEN := Lib.hid (fun W (hb : Below wr.heap.size wr W) => s_endOf (some ⟨g, 0, none⟩) pc PX (o : Int) W (by omega) (HRD.out.below hb))
          rw [hbo] at SEN
          have hbl : bo < PX.length := by have h := (beZ_lt (plL PX) (o : Int)).2; rw [hbo, plL_length] at h; omega
          clear hbo ho hj
          go_wp2_with fail
          go_loopw [11, 13] (fun kv iv wz => ∃ q : Nat, iv = .int .i64 (q : Int) ∧ ((q ≤ o ∧ kv = .int .i64 (k : Int)) ∨ (o < q ∧ kv = .int .i64 (bo : Int))) ∧ Hid (Below wr.heap.size wr wz)) (fun _ iv _ => bo - (RowKit.intOf iv).toNat)
          case atStart => exact ⟨f, rfl, .inl ⟨by omega, rfl⟩, HB1⟩
          case round =>
            rename World => wz
            obtain ⟨q, rfl, hqk, HBz⟩ := hrel
            have ez : wz.cell? ⟨rb, 0, none⟩ = some (.slice (some ⟨g, 0, none⟩) PX.length pc) := (HBz.out.cell (p := ⟨rb, 0, none⟩) HPF.out.run.lt).trans e0
            have zz := HBz.out.size
            rcases hqk with ⟨hqo, rfl⟩ | ⟨hqo, rfl⟩
            · have hqlt : (q : Int) < (k : Int) := by omega
              have SE1 := Lib.hid (SEL.out wz HBz.out q)
              by_cases hqe : q = o
              · subst hqe
                rw [HEO.out] at SE1
                go_wp2_with fail
                refine SE1.out.mono ?_
                rintro e wy ⟨rfl, by1⟩
                have HBy : Hid (Below wr.heap.size wr wy) := Lib.hid (HBz.out.trans (by1.mono zz))
                have ey : wy.cell? ⟨rb, 0, none⟩ = some (.slice (some ⟨g, 0, none⟩) PX.length pc) := (HBy.out.cell (p := ⟨rb, 0, none⟩) HPF.out.run.lt).trans e0
                have zy := HBy.out.size
                clear by1 SE1 ez
                go_wp2_with fail
                refine (SEN.out _ HBy.out).mono ?_
                rintro e wv ⟨rfl, bv1⟩
                have HBv : Hid (Below wr.heap.size wr wv) := Lib.hid (HBy.out.trans (bv1.mono zy))
                clear bv1 ey
                go_wp2
                go_roundw
                case rel => exact ⟨q + 1, by go_num, .inr ⟨by omega, rfl⟩, HBv⟩
                case measure => simp [RowKit.intOf]; omega
              · have HNE := Lib.hid (HFI.out q (by omega))
                obtain ⟨ev, hev⟩ : ∃ ev, elseZ (plL PX) (q : Int) = ev := ⟨_, rfl⟩
                rw [hev] at SE1 HNE
                have hd : (ev == (k : Int)) = false := by simpa using HNE.out
                clear hev HNE
                go_wp2_with fail
                refine SE1.out.mono ?_
                rintro e wy ⟨rfl, by1⟩
                have HBy : Hid (Below wr.heap.size wr wy) := Lib.hid (HBz.out.trans (by1.mono zz))
                clear by1 SE1 ez
                go_wp2
                go_roundw
                case rel => exact ⟨q + 1, by go_num, .inl ⟨by omega, rfl⟩, HBy⟩
                case measure => simp [RowKit.intOf]; omega
            · by_cases hqb : q < bo
              · have hqlt : (q : Int) < (bo : Int) := by omega
                have SE1 := Lib.hid (SEL.out wz HBz.out q)
                have HNE := Lib.hid (HB4.out q)
                obtain ⟨ev, hev⟩ : ∃ ev, elseZ (plL PX) (q : Int) = ev := ⟨_, rfl⟩
                rw [hev] at SE1 HNE
                have hd : (ev == (bo : Int)) = false := by simpa using HNE.out
                clear hev HNE
                go_wp2_with fail
                refine SE1.out.mono ?_
                rintro e wy ⟨rfl, by1⟩
                have HBy : Hid (Below wr.heap.size wr wy) := Lib.hid (HBz.out.trans (by1.mono zz))
                clear by1 SE1 ez
                go_wp2
                go_roundw
                case rel => exact ⟨q + 1, by go_num, .inr ⟨by omega, rfl⟩, HBy⟩
                case measure => simp [RowKit.intOf]; omega
              · have hqlt : ¬ (q : Int) < (bo : Int) := by omega
                clear ez
                go_wp2
                go_roundg gk'
                case measure => omega
                case rel => exact ⟨bo + 1, vs, st, ov', vv', cv', X', by go_num, by omega, by omega, HNX, HVS, HVL, Lib.hid (by have h := HPF.out.below HBz.out; rw [← HEN.out] at h; exact h), Lib.hid (HSTP.out.on HBz.out)⟩
      by_cases h7 : kd = 7
      · subst h7
        by_cases h5 : lkZ (plL PX) (endOpen (plL PX) k : Int) = 5
        · as_aux_lemma =>
            have hj := while_jump (p := plL PX) (f := f) (by rw [HE.out]; omega) hfk HKE.out HLK.out h5
            have HNX := Lib.hid (lines_back HRN.out HNO.out HLK.out h5)
            obtain ⟨o, ho⟩ : ∃ o, endOpen (plL PX) k = o := ⟨_, rfl⟩
            rw [ho] at hj h5 HNX
            have HEQ := Lib.hid (encl_back hj.1 hj.2.1 h5 hj.2.2)
            have hfo : f < o := hj.1
            have hok : o < k := hj.2.1
            have SEN := Lib.hid (fun W (hb : Below wr.heap.size wr W) => s_endOf (some ⟨g, 0, none⟩) pc PX (o : Int) W (by omega) (HRD.out.below hb))
            rw [hj.2.2] at SEN
            have hnl : (natI (encl (plL PX) f o)).length ≤ 60 := by rw [natI_length]; have := encl_len (plL PX) f o; rw [plL_length] at this; omega
            rw [HEQ.out, natI_append, show natI [o] = [(o : Int)] from rfl] at HPX
            obtain ⟨es, hes⟩ : ∃ es, natI (encl (plL PX) f o) = es := ⟨_, rfl⟩
            rw [hes] at HPX hnl
            obtain ⟨la, lc, rfl⟩ := owns_shape HPX.out.loops
            have HLEFT := Lib.hid (PfR.left HPX.out)
            rw [← hes] at HLEFT
            have HES := Lib.hid hes
            have hlc := own_caps HPX.out.loops
            obtain ⟨gl, rfl, hgl, hlast⟩ := readI_of HPX.out.loops es.length (by simp)
            rw [List.getElem_append_right (Nat.le_refl _)] at hlast
            simp only [Nat.sub_self, List.getElem_cons_zero] at hlast
            have hx : (wr.alloc (.cells #[.int .i64 7, .string nm, .slice xa na xc, .slice xb ne xd] 48)).cell? ⟨rb, 0, none⟩ = some (.slice (some ⟨g, 0, none⟩) PX.length pc) := (HB1.out.cell (p := ⟨rb, 0, none⟩) HPF.out.run.lt).trans e0
            simp only [List.length_append, List.length_cons, List.length_nil, Nat.zero_add] at hlc
            have g0 : (0 : Int) < (es.length : Int) + 1 := by omega
            have g1 : (0 : Int) ≤ (es.length : Int) := by omega
            have g2 : (es.length : Int) < (es.length : Int) + 1 := by omega
            have hcp : (es.length : Int) ≤ (lc : Int) := by omega
            have KEEPS : Hid (∀ W, Below (wr.heap.size + 1) (wr.alloc (.cells #[.int .i64 7, .string nm, .slice xa na xc, .slice xb ne xd] 48)) W → (W.cell? ⟨rb, 0, none⟩ = some (.slice (some ⟨g, 0, none⟩) PX.length pc) ∧ W.cell? ⟨gl, es.length, none⟩ = some (.int .i64 (o : Int)))) := Lib.hid (fun W hb => ⟨(hb.cell (p := ⟨rb, 0, none⟩) (by have := HPF.out.run.lt; show rb < _; omega)).trans hx, (hb.cell (p := ⟨gl, es.length, none⟩) (by show gl < _; omega)).trans hlast⟩)
            have KE : Hid (∀ W, Below wr.heap.size wr W → Calls Tryd.prog 27 #[.slice (some ⟨g, 0, none⟩) PX.length pc, .int .i64 (o : Int)] W fun e w' => e = .returned (.int .i64 (k : Int)) ∧ Below W.heap.size W w') := SEN
            clear hes hj h5 hlast hx SEN
            have hsub : IntKind.i64.wrap (es.length : Int) = (es.length : Int) := IntWalk.i64_in _ (by omega)
            go_wp2_with fail
            go_region_held3 (fun w' => w'.cell? ⟨rb, 0, none⟩ = some (.slice (some ⟨g, 0, none⟩) PX.length pc) ∧ w'.cell? ⟨gl, es.length, none⟩ = some (.int .i64 (o : Int))) (first | exact KEEPS.out _ (Below.refl _ _).drew | exact KEEPS.out _ (undrewB (by5.mono (by simp)))) (first
              | (go_at_call 27; ((with_reducible refine (KE.out _ HB1.out.drew).mono ?_); rintro e wy ⟨rfl, by5⟩)))
            have hl2 : wy.cell? ⟨gl, es.length, none⟩ = some (.int .i64 (o : Int)) := (KEEPS.out _ (undrewB (by5.mono (by simp)))).2
            have HBy : Hid (Below (wr.heap.size + 1) (wr.alloc (.cells #[.int .i64 7, .string nm, .slice xa na xc, .slice xb ne xd] 48)) wy) := Lib.hid (undrewB (by5.mono (by simp)))
            clear by5 KE KEEPS hsub
            go_wp2
            go_roundg gk'
            case measure => omega
            case rel =>
              have HPy := HLEFT.out.below (by rw [zx]; exact HBy.out)
              exact ⟨o, vs, st, ov', vv', cv', X', by go_num, hfo, by omega, HNX, HVS, HVL, Lib.hid (by rw [HES.out] at HPy ⊢; exact HPy), Lib.hid (HST1.out.on (by rw [zx]; exact HBy.out))⟩
        · have HNX := Lib.hid (lines_on HRN.out HNO.out HLK.out h5)
          have HEN := Lib.hid (encl_through (f := f) HLK.out h5)
          have HNE := Lib.hid (encl_not (f := f) h5)
          have hnl : (encl (plL PX) f k).length ≤ 60 := by have := encl_len (plL PX) f k; rw [plL_length] at this; omega
          rcases List.eq_nil_or_concat (encl (plL PX) f k) with hen | ⟨es, o, hen⟩
          · as_aux_lemma =>
              have HEMP := Lib.hid hen
              rw [hen] at HPX
              obtain ⟨la, lc, rfl⟩ := owns_shape HPX.out.loops
              have g0 : decide ((0 : Int) < 0) = false := rfl
              clear hen h5
              have hz0 : (natI []).length = 0 := rfl
              go_wp2_with fail
              go_quiet (fail)
              go_wp2
              go_roundg gk'
              case measure => omega
              case rel =>
                have HPy := HPX.out.below (below_drewN (Below.refl _ _) nq)
                exact ⟨k + 1, vs, st, ov', vv', cv', X', by go_num, by omega, by omega, HNX, HVS, HVL, Lib.hid (by rw [HEN.out, HEMP.out]; exact HPy), Lib.hid (HST1.out.on (below_drewN (Below.refl _ _) nq))⟩
          · as_aux_lemma =>
              have hoe : beZ (plL PX) (o : Int) ≠ (k : Int) := HNE.out o (by rw [hen]; simp)
              obtain ⟨ev, hev⟩ : ∃ ev, beZ (plL PX) (o : Int) = ev := ⟨_, rfl⟩
              have SEN := Lib.hid (fun W (hb : Below wr.heap.size wr W) => s_endOf (some ⟨g, 0, none⟩) pc PX (o : Int) W (by omega) (HRD.out.below hb))
              rw [hev] at SEN hoe
              have hfalse : (ev == (k : Int)) = false := by simpa using hoe
              have HEC : Hid (natI (encl (plL PX) f k) = natI es ++ [(o : Int)]) := Lib.hid (by rw [hen, List.concat_eq_append, natI_append]; rfl)
              have hnl2 : (natI es).length ≤ 60 := by rw [hen] at hnl; rw [natI_length]; simp at hnl; omega
              rw [HEC.out] at HPX
              obtain ⟨ns, hns⟩ : ∃ ns, natI es = ns := ⟨_, rfl⟩
              rw [hns] at HPX hnl2 HEC
              obtain ⟨la, lc, rfl⟩ := owns_shape HPX.out.loops
              have hlc := own_caps HPX.out.loops
              obtain ⟨gl, rfl, hgl, hlast⟩ := readI_of HPX.out.loops ns.length (by simp)
              rw [List.getElem_append_right (Nat.le_refl _)] at hlast
              simp only [Nat.sub_self, List.getElem_cons_zero] at hlast
              have hx : (wr.alloc (.cells #[.int .i64 7, .string nm, .slice xa na xc, .slice xb ne xd] 48)).cell? ⟨rb, 0, none⟩ = some (.slice (some ⟨g, 0, none⟩) PX.length pc) := (HB1.out.cell (p := ⟨rb, 0, none⟩) HPF.out.run.lt).trans e0
              simp only [List.length_append, List.length_cons, List.length_nil, Nat.zero_add] at hlc
              have g0 : (0 : Int) < (ns.length : Int) + 1 := by omega
              have g1 : (0 : Int) ≤ (ns.length : Int) := by omega
              have g2 : (ns.length : Int) < (ns.length : Int) + 1 := by omega
              have KEEPS : Hid (∀ W, Below (wr.heap.size + 1) (wr.alloc (.cells #[.int .i64 7, .string nm, .slice xa na xc, .slice xb ne xd] 48)) W → (W.cell? ⟨rb, 0, none⟩ = some (.slice (some ⟨g, 0, none⟩) PX.length pc) ∧ W.cell? ⟨gl, ns.length, none⟩ = some (.int .i64 (o : Int)))) := Lib.hid (fun W hb => ⟨(hb.cell (p := ⟨rb, 0, none⟩) (by have := HPF.out.run.lt; show rb < _; omega)).trans hx, (hb.cell (p := ⟨gl, ns.length, none⟩) (by show gl < _; omega)).trans hlast⟩)
              clear hen hev hns hoe h5 hlast hx
              have hsub : IntKind.i64.wrap (ns.length : Int) = (ns.length : Int) := IntWalk.i64_in _ (by omega)
              go_wp2_with fail
              go_region_held3 (fun w' => w'.cell? ⟨rb, 0, none⟩ = some (.slice (some ⟨g, 0, none⟩) PX.length pc) ∧ w'.cell? ⟨gl, ns.length, none⟩ = some (.int .i64 (o : Int))) (first | exact KEEPS.out _ (Below.refl _ _).drew | exact KEEPS.out _ (undrewB (by5.mono (by simp)))) (first
                | (go_at_call 27; ((with_reducible refine (SEN.out _ HB1.out.drew).mono ?_); rintro e wy ⟨rfl, by5⟩)))
              have HBy : Hid (Below (wr.heap.size + 1) (wr.alloc (.cells #[.int .i64 7, .string nm, .slice xa na xc, .slice xb ne xd] 48)) wy) := Lib.hid (undrewB (by5.mono (by simp)))
              clear by5 SEN KEEPS hsub
              go_wp2
              go_roundg gk'
              case measure => omega
              case rel =>
                have HPy := HPX.out.below (by rw [zx]; exact HBy.out)
                exact ⟨k + 1, vs, st, ov', vv', cv', X', by go_num, by omega, by omega, HNX, HVS, HVL, Lib.hid (by rw [HEN.out, HEC.out]; have h := HPy; simp only [List.length_append, List.length_cons, List.length_nil, Nat.zero_add] at h; exact h), Lib.hid (HST1.out.on (by rw [zx]; exact HBy.out))⟩
      by_cases hfull : st.vis.length = lim
      · as_aux_lemma =>
          have HZ := Lib.hid (lines_full HRN.out HNO.out (by rw [HLK.out]; exact h4) (by rw [HLK.out]; exact h7) hfull)
          have HV := Lib.hid (s_visit_full B rb (.slice (some ⟨g, 0, none⟩) PX.length pc) (lim : Int) st c ov' vv' cv' X' (k : Int) _ HPX.out.run (by omega))
          have hd4 : (kd == 4) = false := by simpa using h4
          have hd7 : (kd == 7) = false := by simpa using h7
          clear h4 h7 hfull
          go_wp2_with fail
          refine HV.out.mono ?_
          rintro e w6 ⟨rfl, hs6, hst6⟩
          have HS6 := Lib.hid hs6
          have HST6 := Lib.hid hst6
          clear hs6 hst6 HV
          go_wp2
          go_ret
          have h := HZ.out
          injection h with hr hs
          subst hr hs
          exact ⟨1, ov', vv', cv', X', ⟨⟨_, rfl⟩, rfl, by decide⟩, HS6.out, HST1.out.trans HST6.out⟩
      obtain ⟨r1, s1, hr1, hcs⟩ := lines_visit HRN.out HNO.out (by rw [HLK.out]; exact h4) (by rw [HLK.out]; exact h7) hfull
      have HR1 := Lib.hid hr1
      have HCS := Lib.hid hcs
      have HV := Lib.hid (s_visit_on B rb (.slice (some ⟨g, 0, none⟩) PX.length pc) (lim : Int) st c ov' vv' cv' X' (k : Int) _ HPX.out.run (by omega) (by have := HVL.out.1; omega) hc6)
      have HSCAN := Lib.hid (HEXP.out h4 h7)
      have HVL1 : Hid ((st.vis ++ [c ++ [(k : Int)]]).length ≤ lim ∧ st.out.length ≤ (st.vis ++ [c ++ [(k : Int)]]).length) := Lib.hid (by have := HVL.out; simp only [List.length_append, List.length_cons, List.length_nil]; omega)
      have HVL2 : Hid (s1.vis.length ≤ lim ∧ s1.out.length + 1 ≤ s1.vis.length) := Lib.hid (by
        have hg := (runF_grown _ _ _ _ _ _ _ _ HR1.out).2.2.1 HVL1.out.1
        have ho := run_outs _ _ _ _ _ _ _ _ _ HR1.out
        have hv := HVL.out.2
        unfold Outs at ho
        simp only [List.length_append, List.length_cons, List.length_nil] at ho
        exact ⟨hg, by omega⟩)
      have hkd := HKK.out
      have hd4 : (kd == 4) = false := by simpa using h4
      have hd7 : (kd == 7) = false := by simpa using h7
      clear hr1 hcs hfull HEXP
      go_wp2_with fail
      refine HV.out.mono ?_
      rintro e w6 ⟨rfl, vv6, x6, hs6, hst6⟩
      have HS6 := Lib.hid hs6
      have HST6 := Lib.hid (HST1.out.trans hst6)
      have HP6 := Lib.hid (HPX.out.go neS.1 neP.1 neP.2.1 neP.2.2 hst6 hs6)
      have HX6 := Lib.hid (HPX.out.run.keep hst6 HX.out (by decide) (by decide) (by decide))
      have HB6 : Hid (Below B wb w6) := Lib.hid (HB.out.trans (HS.out.base HST6.out))
      obtain ⟨al, cl, rfl⟩ := owns_shape HP6.out.loc
      obtain ⟨av, cv2, hav⟩ := owns_shape HP6.out.vals
      subst hav
      have CALL := Lib.hid (IHE.out gk' (by omega) c k L vs 0 ⟨st.out, st.vis ++ [c ++ [(k : Int)]]⟩ r1 s1 w6 al av cl cv2 ov' vv6 cv' (X' ++ [x6]) HR1.out hc6 hkl HSCAN.out HTOK.out hL8 HVS.out HVL1.out.1 HVL1.out.2 HS6.out HB6.out (owns_lo HP6.out.loc (Nat.zero_le _)) (owns_lo HP6.out.vals (Nat.zero_le _)) HP6.out.offV)
      clear hs6 hst6 HV h4 h7
      go_wp2_with fail
      refine CALL.out.mono ?_
      rintro e w7 ⟨code, ov7, vv7, cv7, X7, hev, hs7, hst7⟩
      have HST7 := Lib.hid (HST6.out.trans hst7)
      have HS7 := Lib.hid hs7
      have HX7 := Lib.hid (HS6.out.keep hst7 HX6.out (by decide) (by decide) (by decide))
      have e5 : w7.cell? ⟨rb, 5, none⟩ = some (.int .i64 code) := (blk hs7.row).1 5 _ rfl
      have HT7 := Lib.hid hst7
      clear hs7 hst7 CALL
      cases r1 with
      | vals ws j2 => exact hev.elim
      | ret v => exact hev.elim
      | stop qq =>
        obtain ⟨⟨x, y, rfl⟩, rfl, hq0⟩ := hev
        have hd : (code != 0) = true := by simpa using hq0
        have HQ0 := Lib.hid hq0
        clear hq0
        go_wp2
        go_ret
        rcases HCS.out with ⟨q', hq', hz⟩ | ⟨v, i1, hv, _⟩
        · injection hq' with hq'
          injection hz with hr hs
          subst hr hs
          exact ⟨code, ov7, vv7, cv7, X7, ⟨⟨_, rfl⟩, hq', by rw [← hq']; exact HQ0.out⟩, HS7.out, HST7.out⟩
        · cases hv
      | val v j1 =>
        obtain ⟨rfl, rfl⟩ := hev
        have HAF : Hid (AfterL (plL PX) appZ arN lim gk' c f L vs k v s1 (r, s')) := Lib.hid (by
          rcases HCS.out with ⟨q', hq', _⟩ | ⟨v', i1, hv, h⟩
          · cases hq'
          · injection hv with hv _
            rw [hv]
            exact h)
        have HP7 := Lib.hid (HP6.out.go neS.1 neP.1 neP.2.1 neP.2.2 HT7.out HS7.out)
        have hd0 : ((0 : Int) != 0) = false := rfl
        have x0 : w7.cell? ⟨wr.heap.size, 0, none⟩ = some (.int .i64 kd) := (blk HX7.out).1 0 _ rfl
        have x1 : w7.cell? ⟨wr.heap.size, 1, none⟩ = some (.string nm) := (blk HX7.out).1 1 _ rfl
        have e07 : w7.cell? ⟨rb, 0, none⟩ = some (.slice (some ⟨g, 0, none⟩) PX.length pc) := (blk HS7.out.row).1 0 _ rfl
        have HB7 : Hid (Below B wb w7) := Lib.hid (HB.out.trans (HS.out.base HST7.out))
        have HRD7 := Lib.hid (HP.out.read.below (HP.out.base ▸ HB7.out))
        have k4 : kd ≠ 4 := by simpa using hd4
        have k7 : kd ≠ 7 := by simpa using hd7
        have HBE := Lib.hid (fun (h : kd = 3 ∨ kd = 5) => ask_end (p := plL PX) (f := f) (by rw [HE.out]; omega) hfk HKE.out hkp (by rw [lkZ_at _ _ hkp] at HLK; rw [HLK.out]; exact h))
        clear hd4 hd7 HX6 HT7
        have hkinds : kd = 1 ∨ kd = 2 ∨ kd = 3 ∨ kd = 5 ∨ kd = 6 := by omega
        clear k4 k7 hkd
        rcases hkinds with rfl | rfl | rfl | rfl | rfl
        · as_aux_lemma =>
            have HNX := Lib.hid (HAF.out.1 HLK.out)
            rw [HNM.out] at HNX
            have hix := ix_var L nm (HNL.out rfl)
            have HIX := Lib.hid (s_l04Index al cl L nm w7 (reads_of HP7.out.loc) (by omega))
            rw [hix.1] at HIX
            obtain ⟨x, hx⟩ : ∃ x, varIx L nm = x := ⟨_, rfl⟩
            rw [hx] at HIX hix HNX
            have hxl : x < vs.length := by have := HVS.out; omega
            obtain ⟨gv, rfl, hgv, hcv⟩ := readI_of HP7.out.vals x hxl
            have x2 : (0 : Int) ≤ (x : Int) := by omega
            have x3 : (x : Int) < (vs.length : Int) := by omega
            have HXL := Lib.hid hxl
            clear hix hx hxl hcv hgv
            go_wp2_with fail
            refine HIX.out.mono ?_
            rintro e w8 ⟨rfl, b8⟩
            have HP8 := Lib.hid (HP7.out.below b8)
            have HST8 := Lib.hid (HST7.out.on b8)
            have hcell : w8.cell? ⟨gv, x, none⟩ = (intV vs)[x]? := HP8.out.vals.cellAt x (by have := HXL.out; omega)
            obtain ⟨y, hcy⟩ : ∃ y, w8.cell? ⟨gv, x, none⟩ = some (.int .i64 y) := ⟨_, by rw [hcell]; simp [intV, HXL.out]; rfl⟩
            have hfr := HP8.out.vals.frozenAt x
            have SV := Lib.hid (HP8.out.vals.stored x (.int .i64 v))
            have HPW := Lib.hid (HP8.out.wrote (vs' := vs.set x v) neS.1 neP.2.1 SV.out.2 (by
              have h := SV.out.1
              have e : (intV vs).set x (.int .i64 v) = intV (vs.set x v) := by unfold intV; rw [List.map_set]
              rw [e] at h
              rw [List.length_set]
              exact h))
            have HEN := Lib.hid (encl_next (p := plL PX) (f := f) (k := k) (by rw [HLK.out]; decide) (by rw [HLK.out]; decide))
            have HSTW := Lib.hid (HST8.out.own SV.out.2 (fun q hq => by have h : w.heap.size ≤ gv := (HP8.out.vals.lt gv rfl).1; injection hq with hq; omega))
            clear b8 HIX x1 hcell SV
            go_wp2
            go_roundg gk'
            case measure => omega
            case rel => exact ⟨k + 1, vs.set x v, s1, ov7, vv7, cv7, X7, by go_num, by omega, by omega, HNX, Lib.hid (by rw [List.length_set]; exact HVS.out), Lib.hid (by have := HVL2.out; omega), Lib.hid (by rw [HEN.out]; exact HPW.out), HSTW⟩
        · as_aux_lemma =>
            have HNX := Lib.hid (HAF.out.2.1 HLK.out)
            obtain ⟨oa, oc, rfl⟩ := owns_shape HS7.out.R.out
            have e2 : w7.cell? ⟨rb, 2, none⟩ = some (.slice oa s1.out.length oc) := (blk HS7.out.row).1 2 _ rfl
            have HO7 := Lib.hid HS7.out.R.out
            have hol : s1.out.length ≤ 1000 := by have := HVL2.out; omega
            have h63 : s1.out.length + 1 ≤ maxLen := by unfold maxLen; omega
            have hby : (s1.out.length + 1) * 8 ≤ 140737488355328 := by omega
            clear x1
            go_wp2_with (at_builtin; refine wpList_append_lies _ rfl _ _ 28 rfl B 3 I0 (.int .i64 0) 1 8 Tryd.underlying28 hi hz0 hz1 hz2 rfl (by decide) _ _ _ rfl (HO7.out.alloc _) ⟨w7.heap.size, 0, none⟩ 1 1 [.int .i64 v] rfl rfl ?c1 ?c2 (by decide) h63 hby ?c5 _ rfl ?_)
            case c1 => exact cell_one_new _ _ _
            case c2 => intro u hu; simp at hu; subst hu; rfl
            case c5 => have := HS7.out.lo; have := HS7.out.lt; simp; omega
            intro g4 c4 w9 hown9 hgrow9 hat9 hlt9
            have HPA := Lib.hid (HP7.out.below ((Below.refl w7.heap.size w7).alloc (Nat.le_refl _) (.cells #[.int .i64 v] 3)))
            have PUT := Lib.hid (HPA.out.run.put (v := v) neS.1 neS.2.1 neS.2.2 hgrow9 (by rw [intV_append]; exact hown9) (fun q hq => by simp only [Value.ownBlock, Option.some.injEq] at hq; subst hq; rcases hat9 with h | h; exact .inl h; exact .inr (by simp; omega)))
            have er2 : w9.cell? ⟨rb, 2, none⟩ = some (.slice oa s1.out.length oc) := (hgrow9.cell (a := ⟨rb, 2, none⟩) ((blk HPA.out.run.row).1 2 _ rfl) (fun e => HPA.out.run.ne_o neS.1 e.symm))
            have f2 : w9.frozen? ⟨rb, 2, none⟩ = false := by rw [World.frozen?_of_block (hgrow9.block rb HPA.out.run.lt (fun e => HPA.out.run.ne_o neS.1 e.symm))]; exact (blk HPA.out.run.row).2.1 2
            have HP9 := Lib.hid (HPA.out.go neS.1 neP.1 neP.2.1 neP.2.2 PUT.out.2 PUT.out.1)
            have HST9 := Lib.hid ((HST7.out.on ((Below.refl w7.heap.size w7).alloc (Nat.le_refl _) (.cells #[.int .i64 v] 3))).trans PUT.out.2)
            have HEN := Lib.hid (encl_next (p := plL PX) (f := f) (k := k) (by rw [HLK.out]; decide) (by rw [HLK.out]; decide))
            clear hown9 hgrow9 hat9 hlt9 x0 e2 PUT
            go_wp2
            go_roundg gk'
            case measure => omega
            case rel => exact ⟨k + 1, vs, ⟨s1.out ++ [v], s1.vis⟩, _, vv7, cv7, X7, by go_num, by omega, by omega, HNX, HVS, Lib.hid (by have := HVL2.out; simp only [List.length_append, List.length_cons, List.length_nil]; omega), Lib.hid (by rw [HEN.out]; exact HP9.out), HST9⟩
        · by_cases hv0 : v = 0
          · subst hv0
            by_cases hel : 0 ≤ elseZ (plL PX) (k : Int)
            · as_aux_lemma =>
                have HNX := Lib.hid (HAF.out.2.2.2.2.1 HLK.out rfl hel)
                obtain ⟨eo, heo⟩ := Int.eq_ofNat_of_zero_le hel
                have HEN := Lib.hid (encl_other (p := plL PX) (f := f) HLK.out heo (by have := HBE.out (.inl rfl); omega))
                have hgt := (elseZ_gt (plL PX) (k : Int) hel).1
                have hbl := (elseZ_gt (plL PX) (k : Int) hel).2
                have hb2 := (beZ_lt (plL PX) (k : Int)).2
                rw [plL_length] at hb2
                have SEL := Lib.hid (fun W (hb : Below w7.heap.size w7 W) => s_elseOf (some ⟨g, 0, none⟩) pc PX (k : Int) W (by omega) (HRD7.out.below hb))
                rw [heo] at SEL HNX hgt hbl
                have heo60 : eo ≤ 60 := by omega
                have hke : k < eo := by omega
                have hd1 : (0 : Int) ≤ (eo : Int) := by omega
                clear hel heo hgt hbl hb2 x1
                go_wp2_with fail
                refine (SEL.out _ (Below.refl _ _)).mono ?_
                rintro e w8 ⟨rfl, b8⟩
                have HB8 := Lib.hid b8
                have e08 := (b8.cell (p := ⟨rb, 0, none⟩) HS7.out.lt).trans e07
                have z8 := b8.size
                clear b8 x0
                go_wp2_with fail
                refine (SEL.out _ HB8.out).mono ?_
                rintro e w9 ⟨rfl, b9⟩
                have HB9 : Hid (Below w7.heap.size w7 w9) := Lib.hid (HB8.out.trans (b9.mono z8))
                clear b9 e08
                go_wp2
                go_roundg gk'
                case measure => omega
                case rel => exact ⟨eo + 1, vs, s1, ov7, vv7, cv7, X7, by go_num, by omega, by omega, HNX, HVS, Lib.hid (by have := HVL2.out; omega), Lib.hid (by rw [HEN.out]; exact HP7.out.below HB9.out), Lib.hid (HST7.out.on HB9.out)⟩
            · as_aux_lemma =>
                have HNX := Lib.hid (HAF.out.2.2.2.2.2.1 HLK.out rfl hel)
                have hb1 := (HBE.out (.inl rfl)).1
                have hb2 := (beZ_lt (plL PX) (k : Int)).2
                rw [plL_length] at hb2
                have HEN := Lib.hid (encl_ask (p := plL PX) (f := f) (k := k) (by rw [HLK.out]; decide) (by omega))
                obtain ⟨bo, hbo⟩ := Int.eq_ofNat_of_zero_le (show 0 ≤ beZ (plL PX) (k : Int) by omega)
                have SEL := Lib.hid (s_elseOf (some ⟨g, 0, none⟩) pc PX (k : Int) w7 (by omega) HRD7.out)
                have SEN := Lib.hid (fun W (hb : Below w7.heap.size w7 W) => s_endOf (some ⟨g, 0, none⟩) pc PX (k : Int) W (by omega) (HRD7.out.below hb))
                obtain ⟨ev, hev⟩ : ∃ ev, elseZ (plL PX) (k : Int) = ev := ⟨_, rfl⟩
                rw [hev] at SEL hel
                rw [hbo] at SEN HNX HEN hb1 hb2
                rw [Int.toNat_natCast] at HEN
                have hd1 : decide (0 ≤ ev) = false := decide_eq_false hel
                have hbo60 : bo ≤ 60 := by omega
                have hkb : k < bo := by omega
                clear hel hev hbo hb1 hb2 x1
                go_wp2_with fail
                refine SEL.out.mono ?_
                rintro e w8 ⟨rfl, b8⟩
                have HB8 := Lib.hid b8
                have e08 := (b8.cell (p := ⟨rb, 0, none⟩) HS7.out.lt).trans e07
                have z8 := b8.size
                clear b8 x0
                go_wp2_with fail
                refine (SEN.out _ HB8.out).mono ?_
                rintro e w9 ⟨rfl, b9⟩
                have HB9 : Hid (Below w7.heap.size w7 w9) := Lib.hid (HB8.out.trans (b9.mono z8))
                clear b9 e08
                go_wp2
                go_roundg gk'
                case measure => omega
                case rel => exact ⟨bo + 1, vs, s1, ov7, vv7, cv7, X7, by go_num, by omega, by omega, HNX, HVS, Lib.hid (by have := HVL2.out; omega), Lib.hid (by rw [HEN.out]; exact HP7.out.below HB9.out), Lib.hid (HST7.out.on HB9.out)⟩
          · as_aux_lemma =>
              have HNX := Lib.hid (HAF.out.2.2.2.1 (.inl HLK.out) hv0)
              have HEN := Lib.hid (encl_next (p := plL PX) (f := f) (k := k) (by rw [HLK.out]; decide) (by rw [HLK.out]; decide))
              have hv1 : (v == 0) = false := by simpa using hv0
              clear hv0 x1
              go_wp2
              go_roundg gk'
              case measure => omega
              case rel => exact ⟨k + 1, vs, s1, ov7, vv7, cv7, X7, by go_num, by omega, by omega, HNX, HVS, Lib.hid (by have := HVL2.out; omega), Lib.hid (by rw [HEN.out]; exact HP7.out), HST7⟩
        · by_cases hv0 : v = 0
          · subst hv0
            have HNX := Lib.hid (HAF.out.2.2.2.2.2.2 HLK.out rfl)
            have hb1 := (HBE.out (.inr rfl)).1
            have hb2 := (beZ_lt (plL PX) (k : Int)).2
            rw [plL_length] at hb2
            have HEN := Lib.hid (encl_ask (p := plL PX) (f := f) (k := k) (by rw [HLK.out]; decide) (by omega))
            obtain ⟨bo, hbo⟩ := Int.eq_ofNat_of_zero_le (show 0 ≤ beZ (plL PX) (k : Int) by omega)
            have SEN := Lib.hid (s_endOf (some ⟨g, 0, none⟩) pc PX (k : Int) w7 (by omega) HRD7.out)
            rw [hbo] at SEN HNX HEN hb1 hb2
            rw [Int.toNat_natCast] at HEN
            have hbo60 : bo ≤ 60 := by omega
            have hkb : k < bo := by omega
            clear hbo hb1 hb2 x1
            go_wp2_with fail
            refine SEN.out.mono ?_
            rintro e w9 ⟨rfl, b9⟩
            have HB9 := Lib.hid b9
            clear b9 x0
            go_wp2
            go_roundg gk'
            case measure => omega
            case rel => exact ⟨bo + 1, vs, s1, ov7, vv7, cv7, X7, by go_num, by omega, by omega, HNX, HVS, Lib.hid (by have := HVL2.out; omega), Lib.hid (by rw [HEN.out]; exact HP7.out.below HB9.out), Lib.hid (HST7.out.on HB9.out)⟩
          · as_aux_lemma =>
              have HNX := Lib.hid (HAF.out.2.2.2.1 (.inr HLK.out) hv0)
              have HEN := Lib.hid (encl_loop (p := plL PX) (f := f) hkp hfk HLK.out (HBE.out (.inr rfl)).1)
              have hv1 : (v != 0) = true := by simpa using hv0
              have hnl : (natI (encl (plL PX) f k)).length ≤ 60 := by rw [natI_length]; have := encl_len (plL PX) f k; rw [plL_length] at this; omega
              obtain ⟨es, hes⟩ : ∃ es, natI (encl (plL PX) f k) = es := ⟨_, rfl⟩
              rw [hes] at HP7 hnl
              have HES := Lib.hid hes
              obtain ⟨la, lc, rfl⟩ := owns_shape HP7.out.loops
              have HL7 := Lib.hid HP7.out.loops
              have h63 : es.length + 1 ≤ maxLen := by unfold maxLen; omega
              have hby : (es.length + 1) * 8 ≤ 140737488355328 := by omega
              clear hes hv0 x1
              go_wp2_with (at_builtin; refine wpList_append_lies _ rfl _ _ 28 rfl w.heap.size 3 I0 (.int .i64 0) 1 8 Tryd.underlying28 hi hz0 hz1 hz2 rfl (by decide) _ _ _ rfl (HL7.out.alloc _) ⟨w7.heap.size, 0, none⟩ 1 1 [.int .i64 (k : Int)] rfl rfl ?c1 ?c2 (by decide) h63 hby ?c5 _ rfl ?_)
              case c1 => exact cell_one_new _ _ _
              case c2 => intro u hu; simp at hu; subst hu; rfl
              case c5 => have := HST7.out.size; simp; omega
              intro g4 c4 w9 hown9 hgrow9 hat9 hlt9
              have HPA := Lib.hid (HP7.out.below ((Below.refl w7.heap.size w7).alloc (Nat.le_refl _) (.cells #[.int .i64 (k : Int)] 3)))
              have HP9 := Lib.hid (HPA.out.looped (ls' := es ++ [(k : Int)]) neS.1 neP.2.1 (Nat.le_of_eq (by simp)) hgrow9 (by have h := owns_ints (l := es ++ [(k : Int)]) hown9 (by rw [intV_append]; rfl); exact h) hat9)
              have HST9 := Lib.hid ((HST7.out.on ((Below.refl w7.heap.size w7).alloc (Nat.le_refl _) (.cells #[.int .i64 (k : Int)] 3))).own hgrow9 (fun q hq => (HL7.out.lt q hq).1))
              clear hown9 hgrow9 hat9 hlt9 x0
              go_wp2
              go_roundg gk'
              case measure => omega
              case rel => exact ⟨k + 1, vs, s1, ov7, vv7, cv7, X7, by go_num, by omega, by omega, HNX, HVS, Lib.hid (by have := HVL2.out; omega), Lib.hid (by rw [HEN.out, natI_append, HES.out]; exact HP9.out), HST9⟩
        · have HZ := Lib.hid (HAF.out.2.2.1 HLK.out)
          clear x1
          go_wp2
          go_ret
          have h := HZ.out
          injection h with hr hs
          subst hr hs
          exact ⟨0, ov7, vv7, cv7, X7, ⟨rfl, rfl⟩, HS7.out, HST7.out⟩
    · as_aux_lemma =>
        have HF := Lib.hid (lines_over HRN.out (by rw [HE.out]; omega))
        have hk : ¬ (k : Int) < (E : Int) := by omega
        clear hlt
        go_wp2
        go_ret
        have h := HF.out
        injection h with hr hs
        subst hr hs
        exact ⟨0, ov', vv', cv', X', ⟨rfl, rfl⟩, HPF.out.run, HSTP.out⟩
end Go.Proofs.YtcnnfhcpkbjolaaDoor
