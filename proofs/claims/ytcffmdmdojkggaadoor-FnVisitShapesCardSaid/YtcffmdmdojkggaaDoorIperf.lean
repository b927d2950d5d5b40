/- The program's performFunction, if its expressions are known. -/
import Derived.Test.YtcffmdmdojkggaaDoorIeval
import Derived.Test.YtcffmdmdojkggaaDoorInext
import Derived.Maps.OwnSet
namespace Go.Proofs.YtcffmdmdojkggaaDoor
open Go.RowKit Go.Lib Go.Maps

theorem kS_ne {n m : ByteArray} (h : n ≠ m) : kS n ≠ kS m := fun e => h (by
  unfold kS at e
  injection e with e
  exact ByteArray.ext (Array.ext' e))
theorem VarsOk.put {D : DataW Unit} {L : List ByteArray} {vs : List Int} {L' : List ByteArray} {vs' : List Int} {n : ByteArray} {v : Int} (h : VarsOk D L vs) (hD : IsMap D) (hv : ∀ m, valOf L' vs' m = if m = n then v else valOf L vs m) : VarsOk (D.put (kS n) (.lit (.int .i64 v))) L' vs' := fun m => by
  rw [hv m]
  by_cases e : m = n
  · subst e
    rw [if_pos rfl]
    exact atKey_put_same hD (by unfold kS WideAt.IsKeyLit; trivial) _ _
  · rw [if_neg e, atKey_put_other (kS_ne e)]
    exact h m
theorem sm_wf {v : Int} (h : Sm v) : (Lit.int .i64 v).wf = true := WalkArith.wf_i64 (by unfold Sm at h; omega)

/-- Where the program goes on is where a run goes on. -/
theorem next_else {p : List PLine} (ho : OkI p) {k : Nat} (hl : k < p.length) (h4 : lkZ p (k : Int) = 4) (v : Int) : nextZ p k v = (((beZ p (elseOpen p k : Int)).toNat + 1 : Nat) : Int) ∧ k < (beZ p (elseOpen p k : Int)).toNat + 1 := by
  have hj := else_jump ho hl (by rwa [lkZ_at p k hl] at h4)
  unfold nextZ
  rw [if_neg (by rw [h4]; decide), if_neg (by rw [h4]; decide), if_pos h4]
  omega
theorem next_back {p : List PLine} {k : Nat} (h7 : lkZ p (k : Int) = 7) (h5 : lkZ p (endOpen p k : Int) = 5) (v : Int) : nextZ p k v = ((endOpen p k : Nat) : Int) := by
  unfold nextZ
  rw [if_neg (by rw [h7]; decide), if_neg (by rw [h7]; decide), if_neg (by rw [h7]; decide), if_pos h7, if_pos h5]
theorem next_on {p : List PLine} {k : Nat} (h7 : lkZ p (k : Int) = 7) (h5 : lkZ p (endOpen p k : Int) ≠ 5) (v : Int) : nextZ p k v = ((k + 1 : Nat) : Int) := by
  unfold nextZ
  rw [if_neg (by rw [h7]; decide), if_neg (by rw [h7]; decide), if_neg (by rw [h7]; decide), if_pos h7, if_neg h5]
  omega
theorem next_plain {p : List PLine} {k : Nat} (h : lkZ p (k : Int) = 1 ∨ lkZ p (k : Int) = 2) (v : Int) : nextZ p k v = ((k + 1 : Nat) : Int) := by
  unfold nextZ
  rw [if_neg (by omega), if_neg (by omega), if_neg (by omega), if_neg (by omega)]
  omega
theorem next_ask {p : List PLine} {ap : Int → Int → Int → Int} {ar : TokL → Nat} {lim n : Nat} {c : List Int} {f k : Nat} {L : List ByteArray} {vs : List Int} {v : Int} {s1 : RunS} {z : RunRes × RunS} (h : AfterL p ap ar lim n c f L vs k v s1 z) (hk : lkZ p (k : Int) = 3 ∨ lkZ p (k : Int) = 5) (hb : (k : Int) < beZ p (k : Int)) : ∃ k' : Nat, k < k' ∧ nextZ p k v = (k' : Int) ∧ runF p ap ar lim n (.lines c f L vs k') s1 = some z := by
  unfold nextZ
  by_cases h3 : lkZ p (k : Int) = 3
  · rw [if_pos h3]
    by_cases hv : v = 0
    · rw [if_pos hv]
      by_cases he : 0 ≤ elseZ p (k : Int)
      · rw [if_pos he]
        have := elseZ_gt p (k : Int) he
        exact ⟨_, by omega, by omega, h.2.2.2.2.1 h3 hv he⟩
      · rw [if_neg he]
        exact ⟨_, by omega, by omega, h.2.2.2.2.2.1 h3 hv he⟩
    · rw [if_neg hv]
      exact ⟨k + 1, by omega, by omega, h.2.2.2.1 hk hv⟩
  · have h5 : lkZ p (k : Int) = 5 := by omega
    rw [if_neg h3, if_pos h5]
    by_cases hv : v = 0
    · rw [if_pos hv]
      exact ⟨_, by omega, by omega, h.2.2.2.2.2.2 h5 hv⟩
    · rw [if_neg hv]
      exact ⟨k + 1, by omega, by omega, h.2.2.2.1 hk hv⟩
theorem exprK_of (k : Int) (h : 1 ≤ k ∧ k ≤ 7) : exprK k = true ↔ (k ≠ 4 ∧ k ≠ 7) := by
  have : k = 1 ∨ k = 2 ∨ k = 3 ∨ k = 4 ∨ k = 5 ∨ k = 6 ∨ k = 7 := by omega
  rcases this with e | e | e | e | e | e | e <;> rw [e] <;> decide

set_option maxRecDepth 100000 in
set_option maxHeartbeats 16000000 in
theorem i_perf_step (B rb : Nat) (pa : Option Addr) (pc : Nat) (PX : List LnL) (lim : Nat) (wb : World) (hp : ProgI B pa PX wb) (hlim : lim ≤ 1000) (N : Nat) (ihE : ∀ m, m < N → IEvalOk B rb pa pc PX lim wb m) : IPerfOk B rb pa pc PX lim wb N := by
  intro c f ws s r s' w aa ac ca cc ov vv X hrun hc6 hfun hws hsm hvis hvo hS hB hAo hAO hCo
  have IHE := Lib.hid ihE
  have HP := Lib.hid hp
  have HRUN := Lib.hid hrun
  have HS := Lib.hid hS
  have HB := Lib.hid hB
  have HFUN := Lib.hid hfun
  have HAo := Lib.hid hAo
  have HCo := Lib.hid hCo
  have HSM := Lib.hid hsm
  have hmm := @run_makeMap Tryd.prog
  have hPX : PX.length ≤ 60 := by have := hp.ok.1.1; rwa [plL_length] at this
  obtain ⟨hfl, hf0, hfe, hel, hloc⟩ := fun_parts hp.ok hfun
  obtain ⟨hflp, hargs, hpre, ha4, hnd⟩ := loc_args hp.ok hfun
  rw [plL_length] at hfl hel
  obtain ⟨E, hE⟩ := Int.eq_ofNat_of_zero_le (show 0 ≤ beZ (plL PX) (f : Int) by omega)
  have hwl : ws.length ≤ (locZ (plL PX) (f : Int)).length := by rw [hws, hargs]; exact hpre.length_le
  have HCV := Lib.hid (callVars_length hwl)
  have HRW := Lib.hid (hp.read.below (hp.base ▸ hB))
  obtain ⟨gp, hga, hgp, ⟨_, _, c2, _⟩, hm⟩ := hp.read f hfl
  obtain ⟨xa, xb, xc, xd, ea, _, hrs, _, _, _⟩ := inMem_shape hm
  rw [ea] at c2
  have hpa : (plL PX)[f].args = PX[f].args := by rw [pl_at PX f hfl]; rfl
  rw [hpa] at hargs hpre ha4 hnd
  have hwa : ws.length = PX[f].args.length := by rw [hws, hargs]
  have HFL : Hid (∀ W, Below wb.heap.size wb W → W.cell? ⟨gp, f * 4 + 2, none⟩ = some (.slice xa PX[f].args.length xc) ∧ ReadS W xa PX[f].args) := Lib.hid (fun W hb => ⟨(hb.cell (p := ⟨gp, _, none⟩) hgp).trans c2, hrs.below hb⟩)
  have HSZ : Hid (∀ x ∈ PX[f].args, x.size ≤ maxLen) := Lib.hid (fun x hx => by
    have h := ((lineB_iff _).1 (hp.ok.1.2 _ (List.getElem_mem hflp))).2.2.1
    have h2 := ((diffB_iff _).1 (af_small _ _ h).2).1 x (by rw [hpa]; exact hx)
    have := (nameB_size _ h2).2.1
    unfold maxLen; omega)
  have HEND := Lib.hid (fun W (hb : Below w.heap.size w W) => i_endOf pa pc PX (f : Int) W (by omega) (HRW.out.below hb))
  rw [hE] at HEND hfe hel
  have HE := Lib.hid hE
  obtain ⟨L, hL⟩ : ∃ L, locZ (plL PX) (f : Int) = L := ⟨_, rfl⟩
  rw [hL] at hpre hwl HCV HRUN
  have HL := Lib.hid hL
  have HPRE := Lib.hid hpre
  have HND := Lib.hid hnd
  have hfE : f < E := by omega
  have hEl : E < PX.length := by omega
  have e0 : w.cell? ⟨rb, 0, none⟩ = some (.slice pa PX.length pc) := (blk hS.row).1 0 _ rfl
  obtain ⟨AR, har⟩ : ∃ AR, PX[f].args = AR := ⟨_, rfl⟩
  rw [har] at HFL HSZ hwa ha4 HPRE HND
  have HWA := Lib.hid hwa
  have f0 : (0 : Int) ≤ (f : Int) := by omega
  have f1 : (f : Int) < (PX.length : Int) := by omega
  have hc7 : ¬ (6 : Int) < (c.length : Int) := by omega
  have HBM : Hid (Below w.heap.size w (w.alloc (.map #[] 0))) := Lib.hid ((Below.refl _ _).alloc (Nat.le_refl _) _)
  have hfc := (HFL.out (w.alloc (.map #[] 0)) (HP.out.base ▸ (HB.out.trans (HBM.out.mono (by have := HS.out.lo; have := HS.out.lt; omega))))).1
  have e0m : (w.alloc (.map #[] 0)).cell? ⟨rb, 0, none⟩ = some (.slice pa PX.length pc) := (HBM.out.cell (p := ⟨rb, 0, none⟩) HS.out.lt).trans e0
  subst hga
  clear hrun hS hB hfun hp ihE hAo hloc hargs hpre hnd hf0 hws hE hL hfe hel hCo hm hrs ea hpa har hwa c2 hgp hsm
  go_enter Tryd.func36, Tryd.ntmps36
  go_wp2_with fail
  go_loopw [31] (fun xj wr => ∃ (j : Nat) (D : DataW Unit), j ≤ AR.length ∧ xj = .int .i64 (j : Int) ∧ wr.ownsMap Tryd.prog 9 (plainElem Tryd.prog 3) w.heap.size j D ∧ Hid (VarsOk D (AR.take j) (ws.take j)) ∧ Hid (Below w.heap.size w wr)) (fun xj _ => AR.length - (RowKit.intOf xj).toNat)
  case atStart => exact ⟨0, .map [], Nat.zero_le _, rfl, World.ownsMap_made _ _ _ _, Lib.hid (fun n => rfl), HBM⟩
  case round =>
    rename World => wq
    obtain ⟨j, D, hj, rfl, hown, HV, HBq⟩ := hrel
    have HOM := Lib.hid hown
    have zq := HBq.out.size
    have HBB : Hid (Below B wb wq) := Lib.hid (HB.out.trans (HBq.out.mono (by have := HS.out.lo; have := HS.out.lt; omega)))
    have e0q : wq.cell? ⟨rb, 0, none⟩ = some (.slice (some ⟨gp, 0, none⟩) PX.length pc) := (HBq.out.cell (p := ⟨rb, 0, none⟩) HS.out.lt).trans e0
    by_cases hlt : j < AR.length
    · have hjw : j < ws.length := by have := HWA.out; omega
      obtain ⟨ga, rfl, hca⟩ := (HFL.out wq (HP.out.base ▸ HBB.out)).2 j hlt
      obtain ⟨go, rfl, hgo, hco⟩ := readI_of HAo.out j hjw
      have hcoq := (HBq.out.cell (p := ⟨go, j, none⟩) hgo).trans hco
      have HNI : Hid (AR[j] ∉ AR.take j) := Lib.hid (fun hm => by
        have h := HND.out
        rw [List.nodup_iff_pairwise_ne, List.pairwise_iff_getElem] at h
        obtain ⟨i, hi, e⟩ := List.mem_iff_getElem.1 hm
        rw [List.length_take] at hi
        rw [List.getElem_take] at e
        exact h i j (by omega) hlt (by omega) e)
      have HKS := Lib.hid (HSZ.out AR[j] (List.getElem_mem hlt))
      have HSV : Hid (Sm ws[j]) := Lib.hid (HSM.out _ (List.getElem_mem hjw))
      have HT1 : Hid (AR.take (j + 1) = AR.take j ++ [AR[j]] ∧ ws.take (j + 1) = ws.take j ++ [ws[j]]) := Lib.hid ⟨List.take_succ_eq_append_getElem hlt, List.take_succ_eq_append_getElem hjw⟩
      have j0 : (0 : Int) ≤ (j : Int) := by omega
      have j1 : (j : Int) < (AR.length : Int) := by omega
      have j2 : (j : Int) < (ws.length : Int) := by omega
      generalize AR[j] = nm at *
      generalize ws[j] = x at *
      clear hown hco hgo
      go_wp2_with (at_mapUpdate; refine wpList_mapUpdate_own _ rfl _ _ _ 84 rfl 9 3 lawS Tryd.underlying84 _ w.heap.size j D rfl HOM.out (by unfold maxLen; omega) _ _ _ rfl rfl (WideMaps.keyOf_string_mk Tryd.underlying9 HKS.out) _ [] (plainElem_int Tryd.underlying3 (sm_wf HSV.out)) ?_)
      intro w5 hown5 hgrow5
      have HO5 := Lib.hid hown5
      have HB5 : Hid (Below w.heap.size w w5) := Lib.hid (HBq.out.grown hgrow5 zq (fun q hq => by injection hq with hq; omega))
      have HV5 : Hid (VarsOk (D.put (kS nm) (.lit (.int .i64 x))) (AR.take (j + 1)) (ws.take (j + 1))) := Lib.hid (HV.out.put HOM.out.isMap (fun m => by
        rw [HT1.out.1, HT1.out.2]
        exact valOf_snoc _ _ _ _ _ HNI.out (by rw [List.length_take, List.length_take]; have := HWA.out; omega)))
      clear hown5 hgrow5 hca hcoq
      go_wp2
      go_roundw
      case rel => exact ⟨j + 1, _, by omega, by go_num, HO5.out, HV5, HB5⟩
      case measure => simp [RowKit.intOf]; omega
    · have hjj : j = AR.length := by omega
      subst hjj
      have hne : ¬ (AR.length : Int) < (AR.length : Int) := by omega
      have HVC : Hid (VarsOk D L (callVars (plL PX) f ws)) := Lib.hid (fun n => by
        obtain ⟨R, hR⟩ := HPRE.out
        have h := HV.out n
        rw [List.take_length, show ws.take AR.length = ws from by rw [← HWA.out]; exact List.take_length] at h
        rw [h, ← hR]
        unfold callVars
        rw [valOf_call AR R ws _ n HWA.out])
      have HSC : Hid (SmV (callVars (plL PX) f ws)) := Lib.hid (SmV.app HSM.out (SmV.zeros _))
      have HS0 := Lib.hid (HS.out.below HBq.out)
      clear hown hlt HV
      go_wp2_with fail
      refine (HEND.out _ HBq.out).mono ?_
      rintro e w6 ⟨rfl, b6⟩
      have HS6 := Lib.hid (HS0.out.below b6)
      have HB6 : Hid (Below w.heap.size w w6) := Lib.hid (HBq.out.trans (b6.mono zq))
      have HM6 := Lib.hid (HOM.out.kept (grown_of_below b6 none) (by simp))
      have HST6 : Hid (Step rb (RI ov vv X) (RI ov vv X) w w6) := Lib.hid (Step.of_below HB6.out)
      clear b6 e0q HS0 HEND
      go_wp2_with fail
      go_loopg [13] N (fun gk kv wr => ∃ (k : Nat) (vs : List Int) (st : RunS) (ov' vv' : Value) (X' : List IvL) (mn : Nat) (D' : DataW Unit), kv = .int .i64 (k : Int) ∧ f < k ∧ gk ≤ N ∧ Hid (runF (plL PX) appZ arN lim gk (.lines c f L vs k) st = some (r, s')) ∧ Hid (vs.length = L.length) ∧ Hid (SmV vs) ∧ Hid (st.vis.length ≤ lim ∧ st.out.length ≤ st.vis.length) ∧
          Hid (IAt 46 3 27 B rb wr (.slice (some ⟨gp, 0, none⟩) PX.length pc) (lim : Int) st 0 0 ov' vv' X') ∧ Hid (Step rb (RI ov vv X) (RI ov' vv' X') w wr) ∧ Hid (wr.ownsMap Tryd.prog 9 (plainElem Tryd.prog 3) w.heap.size mn D') ∧ Hid (VarsOk D' L vs) ∧ Hid (mn ≤ 4 + st.vis.length) ∧ Hid (∀ x ∈ X, x ∈ X'))
      case atStart => exact ⟨f + 1, callVars (plL PX) f ws, s, ov, vv, X, AR.length, D, by push_cast; rfl, by omega, Nat.le_refl _, HRUN, HCV, HSC, Lib.hid ⟨hvis, hvo⟩, HS6, HST6, HM6, HVC, Lib.hid (by omega), Lib.hid (fun x hx => hx)⟩
      case round =>
        obtain ⟨k, vs, st, ov', vv', X', mn, D', rfl, hfk, hgk, HRN, HVS, HSV, HVL, HPF, HSTP, HMP, HVO, HMN, HXS⟩ := hrel
        have e0r : wr.cell? ⟨rb, 0, none⟩ = some (.slice (some ⟨gp, 0, none⟩) PX.length pc) := (blk HPF.out.row).1 0 _ rfl
        by_cases hltE : k < E
        · obtain ⟨gk', rfl⟩ : ∃ n, gk = n + 1 := by
            cases gk with
            | zero => exact (no_fuel HRN.out).elim
            | succ n => exact ⟨n, rfl⟩
          have hkl : k < PX.length := by omega
          have hkp : k < (plL PX).length := by rw [plL_length]; exact hkl
          have HKE : Hid ((k : Int) < beZ (plL PX) (f : Int)) := Lib.hid (by rw [HE.out]; omega)
          have HBr : Hid (Below B wb wr) := Lib.hid (HB.out.trans (HS.out.base HSTP.out))
          have HRD := Lib.hid (HP.out.read.below (HP.out.base ▸ HBr.out))
          obtain ⟨g, hga, hg, ⟨c0, c1, c2, c3⟩, hm⟩ := HRD.out k hkl
          injection hga with hga
          injection hga with hga
          subst hga
          obtain ⟨g', hga', _, _, hmb⟩ := HP.out.read k hkl
          obtain ⟨xa, xb, xc2, xd, ea, ee, _, hTb, _, _⟩ := inMem_shape hmb
          rw [ea] at c2
          rw [ee] at c3
          have HLK : Hid (lkZ (plL PX) (k : Int) = PX[k].kind) := Lib.hid (by rw [lkZ_at _ _ hkp, pl_kind PX k hkl])
          have HNM : Hid (nameAt (plL PX) k = PX[k].name) := Lib.hid (by unfold nameAt; rw [List.getElem?_eq_getElem hkp, pl_at PX k hkl]; rfl)
          have HKK : Hid (1 ≤ PX[k].kind ∧ PX[k].kind ≤ 7) := Lib.hid (by have h := kinds_in HP.out.ok HFUN.out hfk HKE.out hkp; rw [pl_at PX k hkl] at h; exact h)
          have HNL : Hid (PX[k].kind = 1 → PX[k].name ∈ L ∧ PX[k].name.size ≤ maxLen) := Lib.hid (fun h1 => by
            have h := loc_set HP.out.ok HFUN.out hfk HKE.out hkp (by rw [pl_at PX k hkl]; exact h1)
            rw [pl_at PX k hkl, HL.out] at h
            refine ⟨h, ?_⟩
            have h2 := ((lineB_iff _).1 (HP.out.ok.1.2 _ (List.getElem_mem hkp))).2.1
            rw [pl_at PX k hkl] at h2
            have h3 : nfB (namedB PX[k].kind) PX[k].name = true := h2
            rw [h1] at h3
            have h4 : nameB PX[k].name = true := h3
            have := (nameB_size _ h4).2.1
            unfold maxLen; omega)
          have HTOK : Hid (∀ t ∈ exprAt (plL PX) k, knownP (plL PX) L t) := Lib.hid (fun t ht => by
            rw [exprAt_get _ _ hkp] at ht
            have h := line_in HP.out.ok HFUN.out hfk HKE.out hkp t ht
            rw [HL.out] at h
            exact h)
          have HXE : Hid (exprAt (plL PX) k = PX[k].expr) := Lib.hid (by rw [exprAt_get _ _ hkp, pl_at PX k hkl]; rfl)
          have HEXP : Hid (PX[k].kind ≠ 4 → PX[k].kind ≠ 7 → ∃ q, scanN ((exprAt (plL PX) k).drop 0) 1 = some q) := Lib.hid (fun h4 h7 => by
            have hb := HP.out.ok.1.2 _ (List.getElem_mem hkp)
            have h := ((lineB_iff _).1 hb).2.2.2
            rw [exprAt_get _ _ hkp]
            have hx := line_expr _ hb
            rw [pl_at PX k hkl] at h hx ⊢
            refine ⟨_, expr_scan _ (hx.resolve_left (fun h0 => ?_))⟩
            have hek : exprK PX[k].kind = true := (exprK_of _ HKK.out).2 ⟨h4, h7⟩
            have h' : efB (exprK PX[k].kind) PX[k].expr = true := h
            have h0' : PX[k].expr = [] := h0
            rw [hek, h0'] at h'
            exact absurd h' (by decide))
          have HNXT := Lib.hid (fun W (hb : Below wr.heap.size wr W) v => i_next (some ⟨gp, 0, none⟩) pc PX k v W hPX hkl (HRD.out.below hb) (fun h4 => by
            have hj := else_jump HP.out.ok hkp (by rw [pl_at PX k hkl]; exact h4)
            exact ⟨hj.1, hj.2.1⟩))
          have HNXS := Lib.hid (fun W (hb : Below B wb W) v => i_next (some ⟨gp, 0, none⟩) pc PX k v W hPX hkl (HP.out.read.below (HP.out.base ▸ hb)) (fun h4 => by
            have hj := else_jump HP.out.ok hkp (by rw [pl_at PX k hkl]; exact h4)
            exact ⟨hj.1, hj.2.1⟩))
          have hTb' : ReadT wb xb (exprAt (plL PX) k) := by rw [HXE.out]; exact hTb
          have HTB := Lib.hid hTb'
          have HXL : Hid (PX[k].expr.length = (exprAt (plL PX) k).length) := Lib.hid (by rw [HXE.out])
          obtain ⟨kn, hkn⟩ := Int.eq_ofNat_of_zero_le (show 0 ≤ PX[k].kind by have := HKK.out; omega)
          rw [HXL.out] at c3
          have HXX := Lib.hid (heap_alloc_new wr (.cells #[.int .i64 PX[k].kind, .string PX[k].name, .slice xa PX[k].args.length xc2, .slice xb (exprAt (plL PX) k).length xd] 39))
          have HB1 : Hid (Below wr.heap.size wr (wr.alloc (.cells #[.int .i64 PX[k].kind, .string PX[k].name, .slice xa PX[k].args.length xc2, .slice xb (exprAt (plL PX) k).length xd] 39))) := Lib.hid ((Below.refl _ _).alloc (Nat.le_refl _) _)
          rw [hkn] at c0 HLK HKK HNL HEXP HXX HB1
          generalize PX[k].name = nm at *
          generalize PX[k].args.length = na at *
          have k0 : (0 : Int) ≤ (k : Int) := by omega
          have k1 : (k : Int) < (PX.length : Int) := by omega
          have k2 : (k : Int) < (E : Int) := by omega
          have hkn8 : kn < 8 := by have := HKK.out; omega
          have n0 : (0 : Int) ≤ (kn : Int) := by omega
          have n1 : (kn : Int) < 8 := by omega
          have HSH := Lib.hid (fun W (hb : Below wb.heap.size wb W) => ((HP.out.shapes.on hb).at kn hkn8).2.2.2)
          have HSx := Lib.hid (HPF.out.below HB1.out)
          have HSTx := Lib.hid (HSTP.out.on HB1.out)
          have HMx := Lib.hid (HMP.out.alloc (.cells #[.int .i64 (kn : Int), .string nm, .slice xa na xc2, .slice xb (exprAt (plL PX) k).length xd] 39))
          have HBx : Hid (Below B wb (wr.alloc (.cells #[.int .i64 (kn : Int), .string nm, .slice xa na xc2, .slice xb (exprAt (plL PX) k).length xd] 39))) := Lib.hid (HB.out.trans (HS.out.base HSTx.out))
          have esh := HSH.out _ (HP.out.base ▸ HBx.out)
          have e0x := (blk HSx.out.row).1 0 _ rfl
          have HNO : Hid (¬ beZ (plL PX) (f : Int) ≤ (k : Int)) := Lib.hid (by have := HKE.out; omega)
          have HBE := Lib.hid (fun (h : lkZ (plL PX) (k : Int) = 3 ∨ lkZ (plL PX) (k : Int) = 5) => ask_end (p := plL PX) (f := f) (by rw [HE.out]; omega) hfk HKE.out hkp (by rwa [lkZ_at _ _ hkp] at h))
          clear hm ea ee hmb hTb hTb' hga' hg hkn
          by_cases hexp : exprK (kn : Int) = true
          · have hk47 := (exprK_of _ HKK.out).1 hexp
            rw [hexp] at esh
            have HCx := Lib.hid ((HCo.out.mono HXS.out).row HSx.out)
            by_cases hfull : st.vis.length = lim
            · have HZ := Lib.hid (lines_full HRN.out HNO.out (by rw [HLK.out]; exact hk47.1) (by rw [HLK.out]; exact hk47.2) hfull)
              have HV := Lib.hid (i_visit_full B rb (.slice (some ⟨gp, 0, none⟩) PX.length pc) (lim : Int) st 0 0 ov' vv' X' (k : Int) (.slice ca c.length cc) _ HSx.out (by omega))
              clear hk47 hexp hfull
              go_wp2_with fail
              refine HV.out.mono ?_
              rintro e w7 ⟨rfl, b7⟩
              have HS7 := Lib.hid (HSx.out.below b7)
              have HST7 := Lib.hid (HSTx.out.on b7)
              clear b7 HV
              go_wp2
              have h := HZ.out
              injection h with hr hs
              subst hr hs
              exact ⟨rfl, ov', vv', X', rfl, HS7.out, HST7.out, HXS.out⟩
            obtain ⟨r1, s1, hr1, hcs⟩ := lines_visit HRN.out HNO.out (by rw [HLK.out]; exact hk47.1) (by rw [HLK.out]; exact hk47.2) hfull
            have HR1 := Lib.hid hr1
            have HCS := Lib.hid hcs
            have HV := Lib.hid (i_visit_on B rb (.slice (some ⟨gp, 0, none⟩) PX.length pc) (lim : Int) st 0 0 c ov' vv' X' (k : Int) ca cc _ HSx.out (by omega) (by have := HVL.out.1; omega) hc6 HCx.out)
            have HSCAN := Lib.hid (HEXP.out hk47.1 hk47.2)
            have HVL1 : Hid ((st.vis ++ [c ++ [(k : Int)]]).length ≤ lim ∧ st.out.length ≤ (st.vis ++ [c ++ [(k : Int)]]).length) := Lib.hid (by have := HVL.out; simp only [List.length_append, List.length_cons, List.length_nil]; omega)
            have HVL2 : Hid (s1.vis.length ≤ lim ∧ s1.out.length + 1 ≤ s1.vis.length ∧ st.vis.length + 1 ≤ s1.vis.length) := Lib.hid (by
              have hgr := runF_grown _ _ _ _ _ _ _ _ HR1.out
              have hg := hgr.2.2.1 HVL1.out.1
              have hp := hgr.1.length_le
              have ho := run_outs _ _ _ _ _ _ _ _ _ HR1.out
              have hv := HVL.out.2
              unfold Outs at ho
              simp only [List.length_append, List.length_cons, List.length_nil] at ho hp
              exact ⟨hg, by omega, by omega⟩)
            clear hr1 hcs hfull hexp
            go_wp2_with fail
            refine HV.out.mono ?_
            rintro e w6' ⟨vv6, x6, rfl, hx6, hs6, hst6⟩
            have HS6' := Lib.hid hs6
            have HST6' := Lib.hid (HSTx.out.trans hst6)
            have HX6 := Lib.hid (HSx.out.keep hst6 HXX.out (by decide) (by decide) (by decide))
            have HM6' := Lib.hid (HSx.out.map hst6 HMx.out)
            have HB6' : Hid (Below B wb w6') := Lib.hid (HB.out.trans (HS.out.base HST6'.out))
            obtain ⟨ta, tc, hxv⟩ : ∃ ta tc, x6.v = .slice ta (c.length + 1) tc := by
              have h := hs6.R.made.1 x6 (List.mem_append_right _ (List.mem_singleton_self _))
              obtain ⟨a, c2, e⟩ := owns_shape h
              exact ⟨a, c2, by rw [e, hx6]; simp⟩
            have HCI : Hid (CallsIn (X' ++ [x6]) (c ++ [(k : Int)]) (.slice ta (c.length + 1) tc)) := Lib.hid (.inr ⟨x6, List.mem_append_right _ (List.mem_singleton_self _), hxv, hx6⟩)
            rw [hxv]
            have CALL := Lib.hid (IHE.out gk' (by omega) c k L vs 0 ⟨st.out, st.vis ++ [c ++ [(k : Int)]]⟩ r1 s1 w6' xb xd w.heap.size mn D' ta tc ov' vv6 (X' ++ [x6]) HR1.out hc6 hkl HSCAN.out HTOK.out HVS.out HSV.out HVL1.out.1 HVL1.out.2 HS6'.out HB6'.out HTB.out HM6'.out HVO.out HCI.out)
            clear hs6 hst6 hx6 hxv HV
            have x3 : w6'.cell? ⟨wr.heap.size, 3, none⟩ = some (.slice xb (exprAt (plL PX) k).length xd) := (blk HX6.out).1 3 _ rfl
            go_wp2_with fail
            refine CALL.out.mono ?_
            rintro e w7 ⟨ov7, vv7, X7, hev, hs7, hst7, hx7⟩
            have HS7 := Lib.hid hs7
            have HST7 := Lib.hid (HST6'.out.trans hst7)
            have HX7 := Lib.hid (HS6'.out.keep hst7 HX6.out (by decide) (by decide) (by decide))
            have HM7 := Lib.hid (HS6'.out.map hst7 HM6'.out)
            have HB7 : Hid (Below B wb w7) := Lib.hid (HB.out.trans (HS.out.base HST7.out))
            have HXS7 : Hid (∀ x ∈ X, x ∈ X7) := Lib.hid (fun x hx => hx7 x (List.mem_append_left _ (HXS.out x hx)))
            clear hs7 hst7 hx7 CALL
            cases r1 with
            | vals ws j2 => exact hev.elim
            | ret v => exact hev.elim
            | stop qq =>
              subst hev
              go_wp2
              rcases HCS.out with ⟨q', hq', hz⟩ | ⟨v, i1, hv, _⟩
              · injection hq' with hq'
                injection hz with hr hs
                subst hq' hr hs
                exact ⟨rfl, ov7, vv7, X7, rfl, HS7.out, HST7.out, HXS7.out⟩
              · cases hv
            | val v j1 =>
              subst hev
              have HAF : Hid (AfterL (plL PX) appZ arN lim gk' c f L vs k v s1 (r, s')) := Lib.hid (by
                rcases HCS.out with ⟨q', hq', _⟩ | ⟨v', i1, hv, h⟩
                · cases hq'
                · injection hv with hv _
                  rw [hv]
                  exact h)
              have HV1 : Hid (Sm v) := Lib.hid (run_small (p := plL PX) (ap := appZ) (ar := arN) (lim := lim) app_sm (tok_sm HP.out.ok) gk' (.eval c k L vs 0) ⟨st.out, st.vis ++ [c ++ [(k : Int)]]⟩ HSV.out _ _ HR1.out)
              have x0 : w7.cell? ⟨wr.heap.size, 0, none⟩ = some (.int .i64 (kn : Int)) := (blk HX7.out).1 0 _ rfl
              have x1 : w7.cell? ⟨wr.heap.size, 1, none⟩ = some (.string nm) := (blk HX7.out).1 1 _ rfl
              have e07 : w7.cell? ⟨rb, 0, none⟩ = some (.slice (some ⟨gp, 0, none⟩) PX.length pc) := (blk HS7.out.row).1 0 _ rfl
              have hkinds : (kn : Int) = 1 ∨ (kn : Int) = 2 ∨ (kn : Int) = 3 ∨ (kn : Int) = 5 ∨ (kn : Int) = 6 := by have h1 := hk47.1; have h2 := hk47.2; have h3 := HKK.out; omega
              clear hk47
              have HLV : Hid (s1.vis.length ≤ lim ∧ s1.out.length ≤ s1.vis.length) := Lib.hid (by have := HVL2.out; omega)
              have HMV : Hid (mn + 1 ≤ 4 + s1.vis.length) := Lib.hid (by have := HVL2.out; have := HMN.out; omega)
              have HMW : Hid (mn ≤ 4 + s1.vis.length) := Lib.hid (by have := HMV.out; omega)
              have zw : w.heap.size ≤ w7.heap.size := HST7.out.size
              have hBw : B ≤ w.heap.size := by have := HS.out.lo; have := HS.out.lt; omega
              by_cases h6 : (kn : Int) = 6
              · have HZ := Lib.hid (HAF.out.2.2.1 (by rw [HLK.out]; exact h6))
                have b1 : ((kn : Int) == 1) = false := by rw [beq_eq_false_iff_ne]; omega
                have b2 : ((kn : Int) == 2) = false := by rw [beq_eq_false_iff_ne]; omega
                have b6 : ((kn : Int) == 6) = true := by rw [beq_iff_eq]; omega
                clear h6 hkinds x1
                go_wp2
                go_ret
                have h := HZ.out
                injection h with hr hs
                subst hr hs
                exact ⟨ov7, vv7, X7, rfl, HS7.out, HST7.out, HXS7.out⟩
              by_cases h35 : (kn : Int) = 3 ∨ (kn : Int) = 5
              · obtain ⟨k', hkk, hnz, hnx⟩ := next_ask HAF.out (by rw [HLK.out]; exact h35) (HBE.out (by rw [HLK.out]; exact h35)).1
                have HNX := Lib.hid hnx
                have NX := Lib.hid (HNXS.out _ HB7.out v)
                rw [hnz] at NX
                have b1 : ((kn : Int) == 1) = false := by rw [beq_eq_false_iff_ne]; omega
                have b2 : ((kn : Int) == 2) = false := by rw [beq_eq_false_iff_ne]; omega
                have b6 : ((kn : Int) == 6) = false := by rw [beq_eq_false_iff_ne]; omega
                clear h6 h35 hkinds x1 hnz hnx
                go_wp2_with fail
                refine NX.out.mono ?_
                rintro e w8 ⟨rfl, b8⟩
                have HS8 := Lib.hid (HS7.out.below b8)
                have HST8 := Lib.hid (HST7.out.on b8)
                have HM8 := Lib.hid (HM7.out.kept (grown_of_below b8 none) (by simp))
                clear b8
                go_wp2
                go_roundg gk'
                case measure => omega
                case rel => exact ⟨k', vs, s1, ov7, vv7, X7, mn, D', rfl, by omega, by omega, HNX, HVS, HSV, HLV, HS8, HST8, HM8, HVO, HMW, HXS7⟩
              by_cases h1 : (kn : Int) = 1
              · have HNX := Lib.hid (HAF.out.1 (by rw [HLK.out]; exact h1))
                rw [HNM.out] at HNX
                have HN1 := Lib.hid (HNL.out h1)
                have HNZ := Lib.hid (next_plain (p := plL PX) (k := k) (by rw [HLK.out]; exact .inl h1) v)
                have b1 : ((kn : Int) == 1) = true := by rw [beq_iff_eq]; omega
                clear h6 h35 hkinds
                go_wp2_with (at_mapUpdate; refine wpList_mapUpdate_own _ rfl _ _ _ 84 rfl 9 3 lawS Tryd.underlying84 _ w.heap.size mn D' rfl HM7.out (by have := HMN.out; have := HVL.out; unfold maxLen; omega) _ _ _ rfl rfl (WideMaps.keyOf_string_mk Tryd.underlying9 HN1.out.2) _ [] (plainElem_int Tryd.underlying3 (sm_wf HV1.out)) ?_)
                intro w8 hown8 hgrow8
                have HM8 := Lib.hid hown8
                have HS8 := Lib.hid (HS7.out.mapped HM7.out hgrow8)
                have HST8 := Lib.hid (HST7.out.own hgrow8 (fun q hq => by injection hq with hq; omega))
                have HB8 : Hid (Below B wb w8) := Lib.hid (HB.out.trans (HS.out.base HST8.out))
                have HV8 : Hid (VarsOk (D'.put (kS nm) (.lit (.int .i64 v))) L (vs.set (varIx L nm) v)) := Lib.hid (HVO.out.put HM7.out.isMap (fun m => valOf_set L vs nm m v HN1.out.1 HVS.out))
                have NX := Lib.hid (HNXS.out _ HB8.out v)
                rw [HNZ.out] at NX
                have x08 : w8.cell? ⟨rb, 0, none⟩ = some (.slice (some ⟨gp, 0, none⟩) PX.length pc) := (blk HS8.out.row).1 0 _ rfl
                clear hown8 hgrow8 x0 x1 e07
                go_wp2_with fail
                refine NX.out.mono ?_
                rintro e w9 ⟨rfl, b9⟩
                have HS9 := Lib.hid (HS8.out.below b9)
                have HST9 := Lib.hid (HST8.out.on b9)
                have HM9 := Lib.hid (HM8.out.kept (grown_of_below b9 none) (by simp))
                clear b9
                go_wp2
                go_roundg gk'
                case measure => omega
                case rel => exact ⟨k + 1, vs.set (varIx L nm) v, s1, ov7, vv7, X7, mn + 1, _, rfl, by omega, by omega, HNX, Lib.hid (by rw [List.length_set]; exact HVS.out), Lib.hid (HSV.out.set _ HV1.out), HLV, HS9, HST9, HM9, HV8, HMV, HXS7⟩
              have h2 : (kn : Int) = 2 := by omega
              have HNX := Lib.hid (HAF.out.2.1 (by rw [HLK.out]; exact h2))
              have HNZ := Lib.hid (next_plain (p := plL PX) (k := k) (by rw [HLK.out]; exact .inr h2) v)
              have b1 : ((kn : Int) == 1) = false := by rw [beq_eq_false_iff_ne]; omega
              have b2 : ((kn : Int) == 2) = true := by rw [beq_iff_eq]; omega
              obtain ⟨I0, hi, hz0, hz1, hz2⟩ := info_parts infoIR
              obtain ⟨oa, oc, rfl⟩ := owns_shape HS7.out.R.out
              have e2 : w7.cell? ⟨rb, 2, none⟩ = some (.slice oa s1.out.length oc) := (blk HS7.out.row).1 2 _ rfl
              have HO7 := Lib.hid HS7.out.R.out
              have hol : s1.out.length ≤ 1000 := by have := HLV.out; omega
              have h63 : s1.out.length + 1 ≤ maxLen := by unfold maxLen; omega
              have hby : (s1.out.length + 1) * 8 ≤ 140737488355328 := by omega
              clear h6 h35 h1 h2 hkinds x1
              go_wp2_with (at_builtin; refine wpList_append_lies _ rfl _ _ 27 rfl B 3 I0 (.int .i64 0) 1 8 Tryd.underlying27 hi hz0 hz1 hz2 rfl (by decide) _ _ _ rfl (HO7.out.alloc _) ⟨w7.heap.size, 0, none⟩ 1 1 [.int .i64 v] rfl rfl ?c1 ?c2 (by decide) h63 hby ?c5 _ rfl ?_)
              case c1 => exact cell_one_new _ _ _
              case c2 => intro u hu; simp at hu; subst hu; rfl
              case c5 => have := HS7.out.lo; have := HS7.out.lt; simp; omega
              intro g4 c4 w9 hown9 hgrow9 hat9 hlt9
              have HSA := Lib.hid (HS7.out.below ((Below.refl w7.heap.size w7).alloc (Nat.le_refl _) (.cells #[.int .i64 v] 3)))
              have PUT := Lib.hid (HSA.out.put (v := v) neI.1 neI.2.1 neI.2.2 hgrow9 (by rw [intV_append]; exact hown9) (fun q hq => by simp only [Value.ownBlock, Option.some.injEq] at hq; subst hq; rcases hat9 with h | h; exact .inl h; exact .inr (by simp; omega)))
              have er2 : w9.cell? ⟨rb, 2, none⟩ = some (.slice oa s1.out.length oc) := (hgrow9.cell (a := ⟨rb, 2, none⟩) ((blk HSA.out.row).1 2 _ rfl) (fun e => HSA.out.ne_o neI.1 e.symm))
              have f2 : w9.frozen? ⟨rb, 2, none⟩ = false := by rw [World.frozen?_of_block (hgrow9.block rb HSA.out.lt (fun e => HSA.out.ne_o neI.1 e.symm))]; exact (blk HSA.out.row).2.1 2
              have HM9 := Lib.hid (HSA.out.map PUT.out.2 (HM7.out.alloc (.cells #[.int .i64 v] 3)))
              have HST9 := Lib.hid ((HST7.out.on ((Below.refl w7.heap.size w7).alloc (Nat.le_refl _) (.cells #[.int .i64 v] 3))).trans PUT.out.2)
              have HB9 := Lib.hid (HB.out.trans (HS.out.base HST9.out))
              have HS9 := Lib.hid PUT.out.1
              have x09 := (blk HS9.out.row).1 0 _ rfl
              have NX := Lib.hid (HNXS.out _ HB9.out v)
              rw [HNZ.out] at NX
              clear hown9 hgrow9 hat9 hlt9 x0 e2 PUT
              go_wp2_with fail
              refine NX.out.mono ?_
              rintro e w8 ⟨rfl, b8⟩
              have HS8 := Lib.hid (HS9.out.below b8)
              have HST8 := Lib.hid (HST9.out.on b8)
              have HM8 := Lib.hid (HM9.out.kept (grown_of_below b8 none) (by simp))
              clear b8
              go_wp2
              go_roundg gk'
              case measure => omega
              case rel => exact ⟨k + 1, vs, ⟨s1.out ++ [v], s1.vis⟩, _, vv7, X7, mn, D', rfl, by omega, by omega, HNX, HVS, HSV, Lib.hid (by have := HVL2.out; simp only [List.length_append, List.length_cons, List.length_nil]; omega), HS8, HST8, HM8, HVO, HMW, HXS7⟩
          · have hexf : exprK (kn : Int) = false := by simpa using hexp
            rw [hexf] at esh
            have h47 : (kn : Int) = 4 ∨ (kn : Int) = 7 := by
              rcases Int.decEq (kn : Int) 4 with h | h
              · rcases Int.decEq (kn : Int) 7 with h' | h'
                · exact absurd ((exprK_of _ HKK.out).2 ⟨h, h'⟩) hexp
                · exact .inr h'
              · exact .inl h
            obtain ⟨k', hkk, HNZ, HNX⟩ : ∃ k' : Nat, f < k' ∧ Hid (nextZ (plL PX) k 0 = (k' : Int)) ∧ Hid (runF (plL PX) appZ arN lim gk' (.lines c f L vs k') st = some (r, s')) := by
              rcases h47 with h4 | h7
              · have h4' : lkZ (plL PX) (k : Int) = 4 := by rw [HLK.out]; exact h4
                have h := next_else HP.out.ok hkp h4' 0
                exact ⟨_, by omega, Lib.hid h.1, Lib.hid (lines_else HRN.out HNO.out h4')⟩
              · have h7' : lkZ (plL PX) (k : Int) = 7 := by rw [HLK.out]; exact h7
                by_cases h5 : lkZ (plL PX) (endOpen (plL PX) k : Int) = 5
                · have hj := while_jump (p := plL PX) (f := f) (by rw [HE.out]; omega) hfk HKE.out h7' h5
                  exact ⟨_, hj.1, Lib.hid (next_back h7' h5 0), Lib.hid (lines_back HRN.out HNO.out h7' h5)⟩
                · exact ⟨k + 1, by omega, Lib.hid (next_on h7' h5 0), Lib.hid (lines_on HRN.out HNO.out h7' h5)⟩
            have NX := Lib.hid (HNXT.out _ HB1.out 0)
            rw [HNZ.out] at NX
            have b1 : ((kn : Int) == 1) = false := by rw [beq_eq_false_iff_ne]; omega
            have b2 : ((kn : Int) == 2) = false := by rw [beq_eq_false_iff_ne]; omega
            have b6 : ((kn : Int) == 6) = false := by rw [beq_eq_false_iff_ne]; omega
            clear h47 hexp hexf
            go_wp2_with fail
            refine NX.out.mono ?_
            rintro e w8 ⟨rfl, b8⟩
            have HS8 := Lib.hid (HSx.out.below b8)
            have HST8 := Lib.hid (HSTx.out.on b8)
            have HM8 := Lib.hid (HMx.out.kept (grown_of_below b8 none) (by simp))
            clear b8
            go_wp2
            go_roundg gk'
            case measure => omega
            case rel => exact ⟨k', vs, st, ov', vv', X', mn, D', rfl, hkk, by omega, HNX, HVS, HSV, HVL, HS8, HST8, HM8, HVO, HMN, HXS⟩
        · have HF := Lib.hid (lines_over HRN.out (by rw [HE.out]; omega))
          have hk : ¬ (k : Int) < (E : Int) := by omega
          clear hltE
          go_wp2
          go_ret
          have h := HF.out
          injection h with hr hs
          subst hr hs
          exact ⟨ov', vv', X', rfl, HPF.out, HSTP.out, HXS.out⟩
end Go.Proofs.YtcffmdmdojkggaaDoor
