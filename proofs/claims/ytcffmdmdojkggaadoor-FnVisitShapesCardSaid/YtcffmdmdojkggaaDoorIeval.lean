/- The program's evaluate: an expression from a token on, if the expressions and the functions in it are known. -/
import Derived.Test.YtcffmdmdojkggaaDoorIvis
import Derived.Test.YtcffmdmdojkggaaDoorOpsImpl
import Derived.Test.YtcffmdmdojkggaaDoorWrapImpl
import Derived.Test.YtcffmdmdojkggaaDoorFindFn
import Derived.Test.YtcffmdmdojkggaaDoorShapes
import Derived.Test.YtcffmdmdojkggaaDoorHeldEnd
import Derived.Maps.OwnOps
import Derived.Maps.Views
import Derived.Deep.LoopGhost
import Derived.Deep.DeepCutAuto
import Derived.Deep.RegionHeld3
namespace Go.Proofs.YtcffmdmdojkggaaDoor
open Go.RowKit Go.Lib Go.Maps

theorem lawS : Keyed Tryd.prog 9 := string_keyed Tryd.underlying9
theorem zeroI (w : World) : (zeroValue 3).run Tryd.prog w = .ok (.int .i64 0) w := by kernel_rfl
/-- What a key of text reads as. -/
def kS (n : ByteArray) : Lit := .string n.data.toList
/-- A map's datum tells the variables. -/
def VarsOk (D : DataW Unit) (L : List ByteArray) (vs : List Int) : Prop := ∀ n : ByteArray, D.atKey (kS n) (.lit (.int .i64 0)) = .lit (.int .i64 (valOf L vs n))
def IRes (r : RunRes) (e : Ending) : Prop := match r with
  | .val v _ => e = .returned (.int .i64 v)
  | .stop q => e = .panicked (endP q)
  | _ => False
def IPf (r : RunRes) (e : Ending) : Prop := match r with
  | .ret v => e = .returned (.int .i64 v)
  | .stop q => e = .panicked (endP q)
  | _ => False
def IOut (R : Ending → Prop) (B rb : Nat) (pv : Value) (lim : Int) (ov vv : Value) (X : List IvL) (w : World) (s' : RunS) (e : Ending) (w' : World) : Prop :=
  ∃ ov' vv' X', R e ∧ IAt 46 3 27 B rb w' pv lim s' 0 0 ov' vv' X' ∧ Step rb (RI ov vv X) (RI ov' vv' X') w w' ∧ ∀ x ∈ X, x ∈ X'
structure ProgI (B : Nat) (pa : Option Addr) (PX : List LnL) (wb : World) : Prop where
  read : ReadL 9 41 wb pa PX
  base : wb.heap.size = B
  ok : OkI (plL PX)
  shapes : Shapes wb
def IEvalOk (B rb : Nat) (pa : Option Addr) (pc : Nat) (PX : List LnL) (lim : Nat) (wb : World) (N : Nat) : Prop :=
  ∀ (c : List Int) (k : Nat) (L : List ByteArray) (vs : List Int) (i : Nat) (s : RunS) (r : RunRes) (s' : RunS) (w : World) (eb : Option Addr) (ec mb mn : Nat) (D : DataW Unit) (ta : Option Addr) (tc : Nat) (ov vv : Value) (X : List IvL),
    runF (plL PX) appZ arN lim N (.eval c k L vs i) s = some (r, s') → c.length ≤ 6 → k < PX.length → (∃ q, scanN ((exprAt (plL PX) k).drop i) 1 = some q) → (∀ t ∈ exprAt (plL PX) k, knownP (plL PX) L t) → vs.length = L.length → SmV vs → s.vis.length ≤ lim → s.out.length ≤ s.vis.length →
    IAt 46 3 27 B rb w (.slice pa PX.length pc) (lim : Int) s 0 0 ov vv X → Below B wb w → ReadT wb eb (exprAt (plL PX) k) → w.ownsMap Tryd.prog 9 (plainElem Tryd.prog 3) mb mn D → VarsOk D L vs → CallsIn X (c ++ [(k : Int)]) (.slice ta (c.length + 1) tc) →
    Calls Tryd.prog 61 #[.pointer (some ⟨rb, 0, none⟩), .slice eb (exprAt (plL PX) k).length ec, .int .i64 (i : Int), .map (some mb), .slice ta (c.length + 1) tc] w (IOut (IRes r) B rb (.slice pa PX.length pc) (lim : Int) ov vv X w s')
def IPerfOk (B rb : Nat) (pa : Option Addr) (pc : Nat) (PX : List LnL) (lim : Nat) (wb : World) (N : Nat) : Prop :=
  ∀ (c : List Int) (f : Nat) (ws : List Int) (s : RunS) (r : RunRes) (s' : RunS) (w : World) (aa : Option Addr) (ac : Nat) (ca : Option Addr) (cc : Nat) (ov vv : Value) (X : List IvL),
    runF (plL PX) appZ arN lim N (.lines c f (locZ (plL PX) (f : Int)) (callVars (plL PX) f ws) (f + 1)) s = some (r, s') → c.length ≤ 6 → f ∈ funs (plL PX) → ws.length = (argsZ (plL PX) (f : Int)).length → SmV ws → s.vis.length ≤ lim → s.out.length ≤ s.vis.length →
    IAt 46 3 27 B rb w (.slice pa PX.length pc) (lim : Int) s 0 0 ov vv X → Below B wb w → w.ownsRow 0 3 1 (.slice aa ws.length ac) ws.length (intV ws) → Off (.slice aa ws.length ac) (RI ov vv X) → CallsIn X c (.slice ca c.length cc) →
    Calls Tryd.prog 36 #[.pointer (some ⟨rb, 0, none⟩), .int .i64 (f : Int), .slice aa ws.length ac, .slice ca c.length cc] w (IOut (IPf r) B rb (.slice pa PX.length pc) (lim : Int) ov vv X w s')

theorem app_sm (k a b : Int) : Sm (appZ k a b) := by
  unfold appZ Sm
  have h2 := W32_lo (W32 a + W32 b)
  have h3 := W32_hi (W32 a + W32 b)
  have h4 := W32_lo (W32 a - W32 b)
  have h5 := W32_hi (W32 a - W32 b)
  have h6 := W32_lo (W32 a * W32 b)
  have h7 := W32_hi (W32 a * W32 b)
  split
  · exact ⟨h2, h3⟩
  split
  · exact ⟨h4, h5⟩
  split
  · exact ⟨h6, h7⟩
  split
  · split <;> omega
  split
  · split <;> omega
  · omega
theorem tok_sm {p : List PLine} (ho : OkI p) (k i : Nat) (h0 : (tokAt p k i).kind = 0) : Sm (tokAt p k i).num := by
  by_cases hi : i < (exprAt p k).length
  · have hk : k < p.length := by
      rcases Nat.lt_or_ge k p.length with h | h
      · exact h
      · unfold exprAt at hi; rw [List.getElem?_eq_none h] at hi; simp at hi
    rw [tokAt_get p k i hi] at h0 ⊢
    have hx := line_expr _ (ho.1.2 _ (List.getElem_mem hk))
    rw [← exprAt_get p k hk] at hx
    have hb := expr_toks _ (hx.resolve_left (fun h => by rw [h] at hi; simp at hi)) _ (List.getElem_mem hi)
    generalize (exprAt p k)[i] = t at *
    obtain ⟨tk, tn, tm⟩ := t
    have h0' : tk = 0 := h0
    subst h0'
    have := tok_0 _ _ hb
    unfold Sm
    simp only
    omega
  · rw [tokAt_getD, List.getElem?_eq_none (by omega)]
    exact sm_zero
/-- One call too many. -/
theorem i_perf_deep (p x y : Value) (ca : Option Addr) (cc : Nat) (w : World) : Calls Tryd.prog 36 #[p, x, y, .slice ca 7 cc] w fun e w' => e = .panicked (endP 2) ∧ w = w' := by
  go_enter Tryd.func36, Tryd.ntmps36
  go_wp2
  exact ⟨rfl, rfl, rfl⟩
theorem undrewC {B : Nat} {w w' : World} (h : Below B w.drew w') : Below B w w' := ⟨h.os, h.tape, h.output, h.size, h.block⟩

set_option maxRecDepth 100000 in
set_option maxHeartbeats 8000000 in
theorem i_eval_step (B rb : Nat) (pa : Option Addr) (pc : Nat) (PX : List LnL) (lim : Nat) (wb : World) (hp : ProgI B pa PX wb) (hlim : lim ≤ 1000) (n : Nat) (ihE : ∀ m, m ≤ n → IEvalOk B rb pa pc PX lim wb m) (ihP : ∀ m, m ≤ n → IPerfOk B rb pa pc PX lim wb m) : IEvalOk B rb pa pc PX lim wb (n + 1) := by
  intro c k L vs i s r s' w eb ec mb mn D ta tc ov vv X hrun hc6 hk hscan hknown hvs hsm hvis hvo hS hB hT hM hVO hto
  have IHE := Lib.hid ihE
  have IHP := Lib.hid ihP
  have HP := Lib.hid hp
  have HS := Lib.hid hS
  have HB := Lib.hid hB
  have HT := Lib.hid hT
  have HM := Lib.hid hM
  have HVO := Lib.hid hVO
  have HTO := Lib.hid hto
  have HSM := Lib.hid hsm
  have hkp : k < (plL PX).length := by rw [plL_length]; exact hk
  obtain ⟨q, hq⟩ := hscan
  obtain ⟨hil, htb, q', hqq, hargs⟩ := scan_one _ _ _ hq
  have htk := tokAt_get (plL PX) k i hil
  obtain ⟨t, ht⟩ : ∃ t, tokAt (plL PX) k i = t := ⟨_, rfl⟩
  rw [ht] at htk
  rw [← htk] at htb hargs
  have hkt := hknown t (by rw [htk]; exact List.getElem_mem hil)
  have hex : exprB (exprAt (plL PX) k) = true := by
    have h := line_expr _ (hp.ok.1.2 _ (List.getElem_mem hkp))
    rw [← exprAt_get _ _ hkp] at h
    exact h.resolve_left (fun h0 => by rw [h0] at hil; simp at hil)
  have hel := (expr_len _ hex).2
  have HNAM := Lib.hid (expr_names _ hex)
  obtain ⟨r1, s1, hr1, hcase⟩ := eval_inv hrun
  rw [ht] at hr1 hcase
  have HARGS := Lib.hid hargs
  have HR1 := Lib.hid hr1
  have HCASE := Lib.hid hcase
  have HTB := Lib.hid htb
  have HKT := Lib.hid hkt
  have HVS := Lib.hid hvs
  have HKN := Lib.hid hknown
  have HTN : Hid (t.name.size ≤ maxLen) := Lib.hid (by have := tok_name t htb; unfold maxLen; omega)
  have HAR : Hid (arZ t = ((arN t : Nat) : Int)) := Lib.hid (by have := arZ_pos t htb; unfold arN; omega)
  have har4 : arN t ≤ 4 := by have := (arZ_bd t).2; unfold arN; omega
  have HOPS : Hid (opsZ (exprAt (plL PX) k) (i : Int) = opsFrom (exprAt (plL PX) k) (arN t) ((i : Int) + 1)) := Lib.hid (by
    refine opsZ_some _ i ?_ hil (arN t) (by rw [← htk]; exact HAR.out)
    rw [endZ_nat, hq]
    simp only [resZ]
    omega)
  have HTW := Lib.hid (HT.out.below (HP.out.base ▸ hB))
  obtain ⟨ge, hge, hgl, t0, t1, t2⟩ := HT.out i hil
  rw [← htk] at t0 t1 t2
  have HTC : Hid (∀ W, Below wb.heap.size wb W → W.cell? ⟨ge, i * 3, none⟩ = some (.int .i64 t.kind) ∧ W.cell? ⟨ge, i * 3 + 1, none⟩ = some (.int .i64 t.num) ∧ W.cell? ⟨ge, i * 3 + 2, none⟩ = some (.string t.name)) := Lib.hid (fun W hb => ⟨(hb.cell (p := ⟨ge, _, none⟩) hgl).trans t0, (hb.cell (p := ⟨ge, _, none⟩) hgl).trans t1, (hb.cell (p := ⟨ge, _, none⟩) hgl).trans t2⟩)
  have hPX : PX.length ≤ 60 := by have := hp.ok.1.1; rwa [plL_length] at this
  subst hge
  have SO := Lib.hid (i_ops (some ⟨ge, 0, none⟩) ec (exprAt (plL PX) k) (i : Int) w (by omega) HTW.out HNAM.out (by omega))
  rw [HOPS.out] at SO
  have hopl : (opsFrom (exprAt (plL PX) k) (arN t) ((i : Int) + 1)).length = arN t := opsFrom_length _ _ _
  have hilE : i < (exprAt (plL PX) k).length := hil
  obtain ⟨OP, hop⟩ : ∃ OP, opsFrom (exprAt (plL PX) k) (arN t) ((i : Int) + 1) = OP := ⟨_, rfl⟩
  rw [hop] at SO hopl
  have HOP := Lib.hid hop
  obtain ⟨el, hell⟩ : ∃ el, exprAt (plL PX) k = el := ⟨_, rfl⟩
  have HEL := Lib.hid hell
  rw [hell] at HTW HNAM HARGS HKN hel hil HT HOP SO
  rw [hell]
  have hilt : i < el.length := hil
  have i0 : (0 : Int) ≤ (i : Int) := by omega
  have i1 : (i : Int) < (el.length : Int) := by omega
  obtain ⟨I0, hi, hz0, hz1, hz2⟩ := info_parts infoIR
  clear hrun hS hB hT hM hVO hto hq hqq hargs htb hkt hcase hr1 hex hil htk ihE ihP hp hvs hknown ht HOPS hop hell hilE hsm
  go_enter Tryd.func61, Tryd.ntmps61
  go_wp2_with fail
  refine SO.out.mono ?_
  rintro e w1 ⟨v17, rfl, hO, b1⟩
  obtain ⟨oa, oc, rfl⟩ := owns3_shape hO
  have HO1 := Lib.hid hO
  have HB1 := Lib.hid b1
  have hlen : (OP.length : Int) = ((arN t : Nat) : Int) := by rw [hopl]
  clear b1 hO t0 t1 t2 hlen hgl
  rw [hopl] at HO1
  rw [hopl]
  go_wp2_with fail
  go_loopw [11, 19] (fun v xj wr => ∃ (j m y : Nat) (acc P : List Int) (st : RunS) (ov' vv' : Value) (X' : List IvL), xj = .int .i64 (j : Int) ∧ j + m ≤ 4 ∧ Hid (j + m = arN t ∧ acc.length = j) ∧ Hid (P.length = j ∧ P ++ opsFrom el m (y : Int) = OP) ∧ SmV acc ∧
      Hid (∃ n' r2, n' ≤ n ∧ runF (plL PX) appZ arN lim n' (.args c k L vs y m) st = some (r2, s1) ∧ pre acc r2 = r1) ∧ Hid (∃ q, scanN (el.drop y) m = some q) ∧ Hid (st.vis.length ≤ lim ∧ st.out.length ≤ st.vis.length) ∧
      Hid (IAt 46 3 27 B rb wr (.slice pa PX.length pc) (lim : Int) st 0 0 ov' vv' X') ∧ Hid (Step rb (RI ov vv X) (RI ov' vv' X') w wr) ∧
      Hid (wr.ownsRow w.heap.size 3 1 v acc.length (intV acc)) ∧ Hid (Off v (RI ov' vv' X')) ∧ Hid (wr.ownsRow w.heap.size 3 1 (.slice oa (arN t) oc) OP.length (intV OP)) ∧ Hid (Off (.slice oa (arN t) oc) (RI ov' vv' X') ∧ Ap (.slice oa (arN t) oc) v) ∧ Hid (∀ x ∈ X, x ∈ X')) (fun _ xj _ => arN t - (RowKit.intOf xj).toNat)
  case atStart =>
    exact ⟨0, arN t, i + 1, [], [], s, ov, vv, X, rfl, by omega, Lib.hid ⟨by omega, rfl⟩, Lib.hid ⟨rfl, by rw [List.nil_append]; exact HOP.out⟩, SmV.nil, Lib.hid ⟨n, r1, Nat.le_refl _, HR1.out, pre_nil _⟩, Lib.hid ⟨q', HARGS.out⟩, Lib.hid ⟨hvis, hvo⟩, Lib.hid (HS.out.below HB1.out), Lib.hid (Step.of_below HB1.out), Lib.hid (World.ownsRow_nil _ _ _ _), Lib.hid (fun u hu => Ap.none), Lib.hid (by rw [hopl]; exact HO1.out), Lib.hid ⟨HS.out.off_new (fun g hg => (HO1.out.lt g hg).1), fun g hg e => by cases e⟩, Lib.hid (fun x hx => hx)⟩
  case round =>
    obtain ⟨j, m, y, acc, P, st, ov', vv', X', rfl, hjm4, HJM, HPO, hsmA, HRUN, HSC, HVL, HSR, HST, HOR, HOF, HOPR, HOPA, HXS⟩ := hrel
    obtain ⟨av, ac, rfl⟩ := owns_shape HOR.out
    have HBr : Hid (Below B wb wr) := Lib.hid (HB.out.trans (HS.out.base HST.out))
    have HTr := Lib.hid (HT.out.below (HP.out.base ▸ HBr.out))
    have HMr := Lib.hid (HS.out.map HST.out HM.out)
    have HTOr := Lib.hid (HTO.out.mono HXS.out)
    have HSMA := Lib.hid hsmA
    have hal : acc.length ≤ 4 := by have := HJM.out; omega
    have hjn : j ≤ arN t := by have := HJM.out; omega
    clear hsmA
    by_cases hm0 : 0 < m
    · obtain ⟨m', rfl⟩ : ∃ m', m = m' + 1 := ⟨m - 1, by omega⟩
      obtain ⟨n', r2, hn', hrun2, hpre⟩ := HRUN.out
      obtain ⟨n'', rfl⟩ : ∃ n'', n' = n'' + 1 := by
        cases n' with
        | zero => exact (no_fuel hrun2).elim
        | succ n'' => exact ⟨n'', rfl⟩
      obtain ⟨re, se, hre, hcs⟩ := args_inv hrun2
      obtain ⟨q, hq⟩ := HSC.out
      obtain ⟨q1, q2, hq1, hq2, _⟩ := scan_next _ _ _ _ hq
      have hjt : j < arN t := by have := HJM.out; omega
      have hjr : j < OP.length := by omega
      have hOj : OP[j]? = some (y : Int) := by
        rw [← HPO.out.2, List.getElem?_append_right (by have := HPO.out.1; omega), HPO.out.1, Nat.sub_self, opsFrom]
        rfl
      obtain ⟨go, hgo, hgol, hcj⟩ := readI_of (by have h := HOPR.out; rw [← hopl] at h; exact h) j hjr
      have hOj2 : OP[j] = (y : Int) := by rw [List.getElem?_eq_getElem hjr] at hOj; exact Option.some.inj hOj
      rw [hOj2] at hcj
      subst hgo
      have CALL := Lib.hid (IHE.out n'' (by omega) c k L vs y st re se wr (some ⟨ge, 0, none⟩) ec mb mn D ta tc ov' vv' X' hre hc6 hk ⟨q1, by rw [HEL.out]; exact hq1⟩ (by rw [HEL.out]; exact HKN.out) HVS.out HSM.out HVL.out.1 HVL.out.2 HSR.out HBr.out (by rw [HEL.out]; exact HT.out) HMr.out HVO.out HTOr.out)
      rw [HEL.out] at CALL
      have HRE := Lib.hid hre
      have HCS := Lib.hid hcs
      have HPRE := Lib.hid hpre
      have HQ1 := Lib.hid hq1
      have HQ2 := Lib.hid hq2
      have HN := Lib.hid hn'
      have j0 : (0 : Int) ≤ (j : Int) := by omega
      have j1 : (j : Int) < ((arN t : Nat) : Int) := by omega
      clear hre hcs hpre hq1 hq2 hn' hrun2 hq HRUN hOj hOj2 hgol
      go_wp2_with fail
      refine CALL.out.mono ?_
      rintro e w3 ⟨ov3, vv3, X3, hev, hs3, hst3, hx3⟩
      have HXS3 : Hid (∀ x ∈ X, x ∈ X3) := Lib.hid (fun x hx => hx3 x (HXS.out x hx))
      have HS3 := Lib.hid hs3
      have HST3 := Lib.hid hst3
      clear hs3 hst3 hx3 CALL
      cases re with
      | vals ws j2 => exact hev.elim
      | ret v => exact hev.elim
      | stop qq =>
        subst hev
        go_wp2
        rcases HCS.out with ⟨q', hq', hz⟩ | ⟨v, i1, hv, _⟩
        · injection hq' with hq'
          injection hz with hz1' hz2'
          rcases HCASE.out with ⟨q2, hq2', hz2⟩ | ⟨ws, i2, hv, _⟩
          · have hpr := HPRE.out
            rw [hz1'] at hpr
            rw [hq2'] at hpr
            injection hpr with hpr
            injection hz2 with hr hs'
            subst hr hs'
            rw [hz2']
            rw [← hq'] at hpr
            rw [← hpr]
            exact ⟨rfl, ov3, vv3, X3, rfl, HS3.out, HST.out.trans HST3.out, HXS3.out⟩
          · exfalso
            have hpr := HPRE.out
            rw [hz1', hv] at hpr
            cases hpr
        · cases hv
      | val v j2 =>
        subst hev
        have HOR3 := Lib.hid (HST3.out.row HOR.out (ne_types HOR.out HSR.out.row neI.1) HOF.out)
        have HOF3 := Lib.hid (HST3.out.off HOR.out HOF.out)
        have HOPR3 := Lib.hid (HST3.out.row HOPR.out (ne_types HOPR.out HSR.out.row neI.1) HOPA.out.1)
        have HOPA3 := Lib.hid (HST3.out.off HOPR.out HOPA.out.1)
        have z3 : w.heap.size ≤ w3.heap.size := by have := HST.out.size; have := HST3.out.size; omega
        have h63 : acc.length + 1 ≤ maxLen := by unfold maxLen; omega
        have hby : (acc.length + 1) * 8 ≤ 140737488355328 := by omega
        have HSV : Hid (Sm v) := Lib.hid (by
          have h := run_small (p := plL PX) (ap := appZ) (ar := arN) (lim := lim) app_sm (tok_sm HP.out.ok) n'' (.eval c k L vs y) st HSM.out _ _ HRE.out
          exact h)
        go_wp2_with (at_builtin; refine wpList_append_lies _ rfl _ _ 27 rfl w.heap.size 3 I0 (.int .i64 0) 1 8 Tryd.underlying27 hi hz0 hz1 hz2 rfl (by decide) _ _ _ rfl (HOR3.out.alloc _) ⟨w3.heap.size, 0, none⟩ 1 1 [.int .i64 v] rfl rfl ?c1 ?c2 (by decide) h63 hby ?c5 _ rfl ?_)
        case c1 => exact cell_one_new _ _ _
        case c2 => intro u hu; simp at hu; subst hu; rfl
        case c5 => simp; omega
        intro g4 c4 w4 hown4 hgrow4 hat4 hlt4
        have HSA := Lib.hid (HS3.out.below ((Below.refl w3.heap.size w3).alloc (Nat.le_refl _) (.cells #[.int .i64 v] 3)))
        have HS4 := Lib.hid (HSA.out.kept hgrow4 (ne_types (HOR3.out.alloc _) HSA.out.row neI.1) (off_ne HOF3.out))
        have HOR4 := Lib.hid (owns_ints (l := acc ++ [v]) hown4 (by rw [intV_append]; rfl))
        have HOF4 := Lib.hid (off_lies (n := (acc ++ [v]).length) (c := c4) HOF3.out (fun u hu q hq => by have h := (HSA.out.rows_at u hu q hq).2; simpa using h) hat4)
        have HST4 := Lib.hid (((HST.out.trans HST3.out).on ((Below.refl w3.heap.size w3).alloc (Nat.le_refl _) (.cells #[.int .i64 v] 3))).own hgrow4 (fun q hq => (HOR3.out.lt q hq).1))
        have HOPR4 := Lib.hid (far (HOPR3.out.alloc (.cells #[.int .i64 v] 3)) hgrow4 (fun g e e' => HOPA.out.2 g e e'))
        have HOPA4 : Hid (Off (.slice (some ⟨go, 0, none⟩) (arN t) oc) (RI ov3 vv3 X3) ∧ Ap (.slice (some ⟨go, 0, none⟩) (arN t) oc) (.slice (some ⟨g4, 0, none⟩) (acc ++ [v]).length c4)) := Lib.hid ⟨HOPA3.out, fun g e e' => by
          simp only [Value.ownBlock, Option.some.injEq] at e'
          subst e'
          rcases hat4 with h | h
          · exact HOPA.out.2 _ e h
          · have := (HOPR3.out.lt _ e).2; omega⟩
        have HF1 : Hid (∃ n' r2, n' ≤ n ∧ runF (plL PX) appZ arN lim n' (.args c k L vs j2 m') se = some (r2, s1) ∧ pre (acc ++ [v]) r2 = r1) := Lib.hid (by
          rcases HCS.out with ⟨q', hq', _⟩ | ⟨v', i1, hv, r3, s3, h3, hz⟩
          · cases hq'
          · injection hv with hv1 hv2
            subst hv1 hv2
            injection hz with hz1' hz2'
            refine ⟨n'', r3, by have := HN.out; omega, by rw [h3, hz2'], ?_⟩
            rw [← HPRE.out, hz1', pre_pre])
        have HJ2 : Hid (j2 = y + q1) := Lib.hid (run_ends n'' (.eval c k L vs y) st _ _ HRE.out q1 (by rw [HEL.out]; exact HQ1.out))
        have HF2 : Hid (∃ q, scanN (el.drop j2) m' = some q) := Lib.hid ⟨q2, by rw [HJ2.out]; exact HQ2.out⟩
        have HVL1 : Hid (se.vis.length ≤ lim ∧ se.out.length ≤ se.vis.length) := Lib.hid ⟨(runF_grown _ _ _ _ _ _ _ _ HRE.out).2.2.1 HVL.out.1, by have h1 := run_outs _ _ _ _ _ _ _ _ _ HRE.out; have h2 := HVL.out.2; unfold Outs at h1; omega⟩
        have HP2 : Hid ((P ++ [(y : Int)]).length = j + 1 ∧ (P ++ [(y : Int)]) ++ opsFrom el m' (j2 : Int) = OP) := Lib.hid (by
          refine ⟨by simp [HPO.out.1], ?_⟩
          rw [← HPO.out.2, opsFrom, List.append_assoc, List.singleton_append]
          have : endZ el (y : Int) = (j2 : Int) := by
            rw [endZ_nat, HQ1.out, HJ2.out]
            simp only [resZ]
            omega
          rw [this])
        clear hown4 hgrow4 hat4 hlt4 hcj
        go_wp2
        go_roundw
        case rel => exact ⟨j + 1, m', j2, acc ++ [v], P ++ [(y : Int)], se, ov3, vv3, X3, by go_num, by omega, Lib.hid ⟨by have := HJM.out; omega, by have := HJM.out; simp; omega⟩, HP2, SmV.app HSMA.out (SmV.cons HSV.out SmV.nil), HF1, HF2, HVL1, HS4, HST4, HOR4, HOF4, HOPR4, HOPA4, HXS3⟩
        case measure => simp [RowKit.intOf]; omega
    · have hm00 : m = 0 := by omega
      subst hm00
      have HE : Hid (r1 = .vals acc y ∧ s1 = st) := Lib.hid (by
        obtain ⟨n', r2, _, hrun2, hpre⟩ := HRUN.out
        have h := args_done hrun2
        injection h with h1 h2
        subst h1
        refine ⟨?_, h2⟩
        rw [← hpre]
        simp [pre])
      have HC : Hid (acc.length = arN t ∧ i < y ∧ ((t.kind = 0 → (r, s') = (.val t.num y, st)) ∧ (t.kind = 1 → (r, s') = (.val ((vs[varIx L t.name]?).getD 0) y, st)) ∧ (t.kind = 7 → c.length = 6 → (r, s') = (.stop 2, st)) ∧
          (t.kind = 7 → c.length ≠ 6 → ∃ r2 s2, runF (plL PX) appZ arN lim n (.lines (c ++ [(k : Int)]) (findZ (plL PX) t.name).toNat (locZ (plL PX) (findZ (plL PX) t.name)) (callVars (plL PX) (findZ (plL PX) t.name).toNat acc) ((findZ (plL PX) t.name).toNat + 1)) st = some (r2, s2) ∧ ((∃ q, r2 = .stop q ∧ (r, s') = (.stop q, s2)) ∨ ∃ v, r2 = .ret v ∧ (r, s') = (.val v y, s2))) ∧
          (t.kind ≠ 0 → t.kind ≠ 1 → t.kind ≠ 7 → (r, s') = (.val (appZ t.kind ((acc[0]?).getD 0) ((acc[1]?).getD 0)) y, st)))) := Lib.hid (by
        obtain ⟨h1, h2⟩ := HE.out
        rcases HCASE.out with ⟨q, hq, _⟩ | ⟨ws, i1, hv, hwl, hi1, hh⟩
        · rw [h1] at hq; cases hq
        · rw [h1] at hv
          injection hv with hv1 hv2
          subst hv1 hv2
          rw [h2] at hh
          exact ⟨hwl, hi1, hh⟩)
      have hje : ¬ (j : Int) < ((arN t : Nat) : Int) := by have := HJM.out; omega
      obtain ⟨d0, d1, d2⟩ := HTC.out wr (HP.out.base ▸ HBr.out)
      have HAL := Lib.hid ((Below.refl wr.heap.size wr).alloc (Nat.le_refl _) (.cells #[.int .i64 t.kind, .int .i64 t.num, .string t.name] 41))
      have HSRa := Lib.hid (HSR.out.below HAL.out)
      have HSTa := Lib.hid (HST.out.on HAL.out)
      clear HRUN HSC HCASE hm0 hjn
      by_cases h0 : t.kind = 0
      · have HR := Lib.hid (HC.out.2.2.1 h0)
        rw [h0] at d0 HSRa HSTa
        clear h0
        go_wp2
        go_ret
        have h := HR.out
        injection h with hr hs
        subst hr hs
        exact ⟨ov', vv', X', rfl, HSRa.out, HSTa.out, HXS.out⟩
      by_cases h1 : t.kind = 1
      · have HR := Lib.hid (HC.out.2.2.2.1 h1)
        rw [h1] at d0 HSRa HSTa
        clear h0 h1
        go_wp2_with (at_lookup; refine wpList_lookup_own_int _ rfl _ _ 84 rfl 9 3 .i64 lawS Tryd.underlying84 Tryd.underlying3 (zeroI _) mb mn D rfl (HMr.out.alloc _) _ _ rfl (Go.WideMaps.keyOf_string_mk Tryd.underlying9 HTN.out) ?_; intro cx hat hwc)
        have hval : cx = valOf L vs t.name := by
          have h := HVO.out t.name
          unfold kS at h
          rw [h] at hat
          injection hat with hat
          injection hat with _ hat
          exact hat.symm
        clear hat hwc
        go_ret
        have h := HR.out
        injection h with hr hs
        subst hr hs hval
        exact ⟨ov', vv', X', rfl, HSRa.out, HSTa.out, HXS.out⟩
      by_cases h7 : t.kind = 7
      · have HKF := Lib.hid (HKT.out.2 h7)
        obtain ⟨f', hf'⟩ := Int.eq_ofNat_of_zero_le HKF.out.1
        have HFU := Lib.hid (findZ_fun _ _ _ hf')
        have HFZ := Lib.hid hf'
        have HFF : Hid (∀ W, Below wr.heap.size wr W → Calls Tryd.prog 52 #[.slice pa PX.length pc, .string t.name] W fun e w' => e = .returned (.int .i64 (f' : Int)) ∧ Below W.heap.size W w') := Lib.hid (fun W hb => by
          have h := i_findFn pa pc PX t.name W (by omega) ((HP.out.read.below (HP.out.base ▸ HBr.out)).below hb)
          rw [HFZ.out] at h
          exact h)
        obtain ⟨wt, hwt⟩ : ∃ wt, wr.alloc (.cells #[.int .i64 t.kind, .int .i64 t.num, .string t.name] 41) = wt := ⟨_, rfl⟩
        have HXT : Hid (wt.heap[wr.heap.size]? = some (.cells #[.int .i64 t.kind, .int .i64 t.num, .string t.name] 41 (0, 0))) := Lib.hid (hwt ▸ heap_alloc_new wr _)
        rw [hwt] at HAL HSRa HSTa
        have zt := HAL.out.size
        have KEEP : Hid (∀ W, Below wt.heap.size wt W → (W.cell? ⟨rb, 0, none⟩ = some (.slice pa PX.length pc) ∧ W.cell? ⟨wr.heap.size, 2, none⟩ = some (.string t.name))) := Lib.hid (fun W hb => ⟨(blk (HSRa.out.below hb).row).1 0 _ rfl, (blk ((hb.block _ (blk HXT.out).2.2).trans HXT.out)).1 2 _ rfl⟩)
        have H7 := Lib.hid h7
        have hk0 : t.kind = 7 := h7
        have d0' : wr.cell? ⟨ge, i * 3, none⟩ = some (.int .i64 7) := by rw [d0, h7]
        rw [h7] at hwt
        have HWT := Lib.hid hwt
        clear hf' d0 h0 h1 hwt
        by_cases hc : c.length = 6
        · have HR := Lib.hid (HC.out.2.2.2.2.1 h7 hc)
          have DEEP : Hid (∀ W p x y, Calls Tryd.prog 36 #[p, x, y, .slice ta (c.length + 1) tc] W fun e w' => e = .panicked (endP 2) ∧ W = w') := Lib.hid (fun W p x y => by rw [hc]; exact i_perf_deep p x y ta tc W)
          clear hk0 h7 hc
          go_upto_region 15 with fail
          rw [HWT.out]
          refine E_start (S := fun w' => w'.cell? ⟨rb, 0, none⟩ = some (.slice pa PX.length pc) ∧ w'.cell? ⟨wr.heap.size, 2, none⟩ = some (.string t.name)) 11 (by kernel_rfl) (KEEP.out _ (Below.refl wt.heap.size wt).drew) (fun hHeld => ?_)
          refine E_take (i := 0) (oi := _) (v := ?_) rfl (by kernel_rfl) (fun _ _ _ h => h) ?_ (by assumption) ?_
          rotate_left 1
          · first | (refine Or.inl ⟨by rfl, ?_⟩; intro w hSw; (try dsimp only at hSw); (try simp only [List.getElem_toArray, List.getElem_cons_zero, List.getElem_cons_succ]); go_simp; done) | (refine Or.inl ⟨by rfl, ?_⟩; intro w hSw; (try dsimp only at hSw); (try simp only [List.getElem_toArray, List.getElem_cons_zero, List.getElem_cons_succ]); go_simp; with_reducible rfl)
          try simp only [Act.put, List.setIfInBounds_toArray, List.set_cons_zero, List.set_cons_succ, List.getElem_toArray, List.getElem_cons_zero, List.getElem_cons_succ]
          refine E_take (i := 1) (oi := _) (v := ?_) rfl (by kernel_rfl) (fun _ _ _ h => h) ?_ (by assumption) ?_
          rotate_left 1
          · first | (refine Or.inl ⟨by rfl, ?_⟩; intro w hSw; (try dsimp only at hSw); (try simp only [List.getElem_toArray, List.getElem_cons_zero, List.getElem_cons_succ]); go_simp; done) | (refine Or.inl ⟨by rfl, ?_⟩; intro w hSw; (try dsimp only at hSw); (try simp only [List.getElem_toArray, List.getElem_cons_zero, List.getElem_cons_succ]); go_simp; with_reducible rfl)
          try simp only [Act.put, List.setIfInBounds_toArray, List.set_cons_zero, List.set_cons_succ, List.getElem_toArray, List.getElem_cons_zero, List.getElem_cons_succ]
          refine E_take (i := 2) (oi := _) (v := ?_) rfl (by kernel_rfl) (fun _ _ _ h => h) ?_ (by assumption) ?_
          rotate_left 1
          · first | (refine Or.inl ⟨by rfl, ?_⟩; intro w hSw; (try dsimp only at hSw); (try simp only [List.getElem_toArray, List.getElem_cons_zero, List.getElem_cons_succ]); go_simp; done) | (refine Or.inl ⟨by rfl, ?_⟩; intro w hSw; (try dsimp only at hSw); (try simp only [List.getElem_toArray, List.getElem_cons_zero, List.getElem_cons_succ]); go_simp; with_reducible rfl)
          try simp only [Act.put, List.setIfInBounds_toArray, List.set_cons_zero, List.set_cons_succ, List.getElem_toArray, List.getElem_cons_zero, List.getElem_cons_succ]
          refine E_take (i := 3) (oi := _) (v := ?_) rfl (by kernel_rfl) (fun _ _ _ h => h) ?_ (by assumption) ?_
          rotate_left 1
          · first | (refine Or.inl ⟨by rfl, ?_⟩; intro w hSw; (try dsimp only at hSw); (try simp only [List.getElem_toArray, List.getElem_cons_zero, List.getElem_cons_succ]); go_simp; done) | (refine Or.inl ⟨by rfl, ?_⟩; intro w hSw; (try dsimp only at hSw); (try simp only [List.getElem_toArray, List.getElem_cons_zero, List.getElem_cons_succ]); go_simp; with_reducible rfl)
          try simp only [Act.put, List.setIfInBounds_toArray, List.set_cons_zero, List.set_cons_succ, List.getElem_toArray, List.getElem_cons_zero, List.getElem_cons_succ]
          refine E_take (i := 4) (oi := _) (v := ?_) rfl (by kernel_rfl) (fun _ _ _ h => h) ?_ (by assumption) ?_
          rotate_left 1
          · first | (refine Or.inl ⟨by rfl, ?_⟩; intro w hSw; (try dsimp only at hSw); (try simp only [List.getElem_toArray, List.getElem_cons_zero, List.getElem_cons_succ]); go_simp; done) | (refine Or.inl ⟨by rfl, ?_⟩; intro w hSw; (try dsimp only at hSw); (try simp only [List.getElem_toArray, List.getElem_cons_zero, List.getElem_cons_succ]); go_simp; with_reducible rfl)
          try simp only [Act.put, List.setIfInBounds_toArray, List.set_cons_zero, List.set_cons_succ, List.getElem_toArray, List.getElem_cons_zero, List.getElem_cons_succ]
          refine E_take (i := 5) (oi := _) (v := ?_) rfl (by kernel_rfl) (fun _ _ _ h => h) ?_ (by assumption) ?_
          rotate_left 1
          · first | (refine Or.inl ⟨by rfl, ?_⟩; intro w hSw; (try dsimp only at hSw); (try simp only [List.getElem_toArray, List.getElem_cons_zero, List.getElem_cons_succ]); go_simp; done) | (refine Or.inl ⟨by rfl, ?_⟩; intro w hSw; (try dsimp only at hSw); (try simp only [List.getElem_toArray, List.getElem_cons_zero, List.getElem_cons_succ]); go_simp; with_reducible rfl)
          try simp only [Act.put, List.setIfInBounds_toArray, List.set_cons_zero, List.set_cons_succ, List.getElem_toArray, List.getElem_cons_zero, List.getElem_cons_succ]
          refine E_take (i := 6) (oi := _) (v := ?_) rfl (by kernel_rfl) (fun _ _ _ h => h) ?_ (by assumption) ?_
          rotate_left 1
          · first | (refine Or.inl ⟨by rfl, ?_⟩; intro w hSw; (try dsimp only at hSw); (try simp only [List.getElem_toArray, List.getElem_cons_zero, List.getElem_cons_succ]); go_simp; done) | (refine Or.inl ⟨by rfl, ?_⟩; intro w hSw; (try dsimp only at hSw); (try simp only [List.getElem_toArray, List.getElem_cons_zero, List.getElem_cons_succ]); go_simp; with_reducible rfl)
          try simp only [Act.put, List.setIfInBounds_toArray, List.set_cons_zero, List.set_cons_succ, List.getElem_toArray, List.getElem_cons_zero, List.getElem_cons_succ]
          refine E_take (i := 8) (oi := _) (v := ?_) rfl (by kernel_rfl) (fun _ _ _ h => h) ?_ (by assumption) ?_
          rotate_left 1
          · first | (refine Or.inl ⟨by rfl, ?_⟩; intro w hSw; (try dsimp only at hSw); (try simp only [List.getElem_toArray, List.getElem_cons_zero, List.getElem_cons_succ]); go_simp; done) | (refine Or.inl ⟨by rfl, ?_⟩; intro w hSw; (try dsimp only at hSw); (try simp only [List.getElem_toArray, List.getElem_cons_zero, List.getElem_cons_succ]); go_simp; with_reducible rfl)
          try simp only [Act.put, List.setIfInBounds_toArray, List.set_cons_zero, List.set_cons_succ, List.getElem_toArray, List.getElem_cons_zero, List.getElem_cons_succ]
          refine E_take (i := 9) (oi := _) (v := ?_) rfl (by kernel_rfl) (fun _ _ _ h => h) ?_ (by assumption) ?_
          rotate_left 1
          · first | (refine Or.inl ⟨by rfl, ?_⟩; intro w hSw; (try dsimp only at hSw); (try simp only [List.getElem_toArray, List.getElem_cons_zero, List.getElem_cons_succ]); go_simp; done) | (refine Or.inl ⟨by rfl, ?_⟩; intro w hSw; (try dsimp only at hSw); (try simp only [List.getElem_toArray, List.getElem_cons_zero, List.getElem_cons_succ]); go_simp; with_reducible rfl)
          try simp only [Act.put, List.setIfInBounds_toArray, List.set_cons_zero, List.set_cons_succ, List.getElem_toArray, List.getElem_cons_zero, List.getElem_cons_succ]
          refine E_ready (rs := [7]) (by kernel_rfl) (by decide) ?_
          refine AllE.cons (o := _) rfl (fun K hK => ?_) AllE.nil
          try simp only [List.getElem_toArray, List.getElem_cons_zero, List.getElem_cons_succ]
          go_simp
          refine (HFF.out _ (HAL.out.drew)).mono ?_
          rintro e w6 ⟨rfl, b6⟩
          go_wp2_with fail
          refine hK.out _ _ (KEEP.out _ (undrewC b6)) (fun hHeld => ?_)
          clear hK K
          try simp only [Act.put, List.setIfInBounds_toArray, List.set_cons_zero, List.set_cons_succ, List.getElem_toArray, List.getElem_cons_zero, List.getElem_cons_succ]
          refine E_ready (rs := [10]) (by kernel_rfl) (by decide) ?_
          refine AllE.cons (o := _) rfl (fun K hK => ?_) AllE.nil
          try simp only [List.getElem_toArray, List.getElem_cons_zero, List.getElem_cons_succ]
          go_simp
          refine (DEEP.out _ _ _ _).mono ?_
          rintro e w7 ⟨rfl, rfl⟩
          go_wp2
          have h := HR.out
          injection h with hr hs
          subst hr hs
          have HB6 : Below wt.heap.size wt w6 := undrewC b6
          exact ⟨rfl, ov', vv', X', rfl, HSRa.out.below HB6, HSTa.out.on HB6, HXS.out⟩
        · have HR := Lib.hid (HC.out.2.2.2.2.2.1 h7 hc)
          have HAL2 : Hid (acc.length = (argsZ (plL PX) (f' : Int)).length) := Lib.hid (by
            have h1 := HKF.out.2
            rw [HFZ.out] at h1
            have h2 := HC.out.1
            have h3 := HAR.out
            obtain ⟨tk, tn, tm⟩ := t
            have hk7 : tk = 7 := H7.out
            subst hk7
            rw [arZ_7 _ _ HTB.out] at h3
            simp only at h1
            omega)
          obtain ⟨r2, s2, hr2, hfin⟩ := HR.out
          have HR2 := Lib.hid hr2
          have HFIN := Lib.hid hfin
          have HBt : Hid (Below B wb wt) := Lib.hid (HB.out.trans (HS.out.base HSTa.out))
          have CALLP : Hid (∀ W, Below wt.heap.size wt W → Calls Tryd.prog 36 #[.pointer (some ⟨rb, 0, none⟩), .int .i64 (f' : Int), .slice av acc.length ac, .slice ta (c.length + 1) tc] W (IOut (IPf r2) B rb (.slice pa PX.length pc) (lim : Int) ov' vv' X' W s2)) := Lib.hid (fun W hb => by
            have HL1 : (c ++ [(k : Int)]).length = c.length + 1 := by simp
            have h := IHP.out n (Nat.le_refl _) (c ++ [(k : Int)]) f' acc st r2 s2 W av ac ta tc ov' vv' X' ?_ (by simp; omega) HFU.out HAL2.out HSMA.out HVL.out.1 HVL.out.2 (HSRa.out.below hb) (HBt.out.trans (hb.mono (by have := HBt.out.size; have := HP.out.base; omega))) (owns_lo (owns_below (owns_below HOR.out HAL.out) hb) (Nat.zero_le _)) HOF.out (by rw [HL1]; exact HTOr.out)
            · rw [HL1] at h
              exact h
            · have h := HR2.out
              rw [HFZ.out] at h
              exact h)
          clear hk0 h7 hc hr2 hfin HR
          go_upto_region 15 with fail
          rw [HWT.out]
          refine E_start (S := fun w' => w'.cell? ⟨rb, 0, none⟩ = some (.slice pa PX.length pc) ∧ w'.cell? ⟨wr.heap.size, 2, none⟩ = some (.string t.name)) 11 (by kernel_rfl) (KEEP.out _ (Below.refl wt.heap.size wt).drew) (fun hHeld => ?_)
          refine E_take (i := 0) (oi := _) (v := ?_) rfl (by kernel_rfl) (fun _ _ _ h => h) ?_ (by assumption) ?_
          rotate_left 1
          · first | (refine Or.inl ⟨by rfl, ?_⟩; intro w hSw; (try dsimp only at hSw); (try simp only [List.getElem_toArray, List.getElem_cons_zero, List.getElem_cons_succ]); go_simp; done) | (refine Or.inl ⟨by rfl, ?_⟩; intro w hSw; (try dsimp only at hSw); (try simp only [List.getElem_toArray, List.getElem_cons_zero, List.getElem_cons_succ]); go_simp; with_reducible rfl)
          try simp only [Act.put, List.setIfInBounds_toArray, List.set_cons_zero, List.set_cons_succ, List.getElem_toArray, List.getElem_cons_zero, List.getElem_cons_succ]
          refine E_take (i := 1) (oi := _) (v := ?_) rfl (by kernel_rfl) (fun _ _ _ h => h) ?_ (by assumption) ?_
          rotate_left 1
          · first | (refine Or.inl ⟨by rfl, ?_⟩; intro w hSw; (try dsimp only at hSw); (try simp only [List.getElem_toArray, List.getElem_cons_zero, List.getElem_cons_succ]); go_simp; done) | (refine Or.inl ⟨by rfl, ?_⟩; intro w hSw; (try dsimp only at hSw); (try simp only [List.getElem_toArray, List.getElem_cons_zero, List.getElem_cons_succ]); go_simp; with_reducible rfl)
          try simp only [Act.put, List.setIfInBounds_toArray, List.set_cons_zero, List.set_cons_succ, List.getElem_toArray, List.getElem_cons_zero, List.getElem_cons_succ]
          refine E_take (i := 2) (oi := _) (v := ?_) rfl (by kernel_rfl) (fun _ _ _ h => h) ?_ (by assumption) ?_
          rotate_left 1
          · first | (refine Or.inl ⟨by rfl, ?_⟩; intro w hSw; (try dsimp only at hSw); (try simp only [List.getElem_toArray, List.getElem_cons_zero, List.getElem_cons_succ]); go_simp; done) | (refine Or.inl ⟨by rfl, ?_⟩; intro w hSw; (try dsimp only at hSw); (try simp only [List.getElem_toArray, List.getElem_cons_zero, List.getElem_cons_succ]); go_simp; with_reducible rfl)
          try simp only [Act.put, List.setIfInBounds_toArray, List.set_cons_zero, List.set_cons_succ, List.getElem_toArray, List.getElem_cons_zero, List.getElem_cons_succ]
          refine E_take (i := 3) (oi := _) (v := ?_) rfl (by kernel_rfl) (fun _ _ _ h => h) ?_ (by assumption) ?_
          rotate_left 1
          · first | (refine Or.inl ⟨by rfl, ?_⟩; intro w hSw; (try dsimp only at hSw); (try simp only [List.getElem_toArray, List.getElem_cons_zero, List.getElem_cons_succ]); go_simp; done) | (refine Or.inl ⟨by rfl, ?_⟩; intro w hSw; (try dsimp only at hSw); (try simp only [List.getElem_toArray, List.getElem_cons_zero, List.getElem_cons_succ]); go_simp; with_reducible rfl)
          try simp only [Act.put, List.setIfInBounds_toArray, List.set_cons_zero, List.set_cons_succ, List.getElem_toArray, List.getElem_cons_zero, List.getElem_cons_succ]
          refine E_take (i := 4) (oi := _) (v := ?_) rfl (by kernel_rfl) (fun _ _ _ h => h) ?_ (by assumption) ?_
          rotate_left 1
          · first | (refine Or.inl ⟨by rfl, ?_⟩; intro w hSw; (try dsimp only at hSw); (try simp only [List.getElem_toArray, List.getElem_cons_zero, List.getElem_cons_succ]); go_simp; done) | (refine Or.inl ⟨by rfl, ?_⟩; intro w hSw; (try dsimp only at hSw); (try simp only [List.getElem_toArray, List.getElem_cons_zero, List.getElem_cons_succ]); go_simp; with_reducible rfl)
          try simp only [Act.put, List.setIfInBounds_toArray, List.set_cons_zero, List.set_cons_succ, List.getElem_toArray, List.getElem_cons_zero, List.getElem_cons_succ]
          refine E_take (i := 5) (oi := _) (v := ?_) rfl (by kernel_rfl) (fun _ _ _ h => h) ?_ (by assumption) ?_
          rotate_left 1
          · first | (refine Or.inl ⟨by rfl, ?_⟩; intro w hSw; (try dsimp only at hSw); (try simp only [List.getElem_toArray, List.getElem_cons_zero, List.getElem_cons_succ]); go_simp; done) | (refine Or.inl ⟨by rfl, ?_⟩; intro w hSw; (try dsimp only at hSw); (try simp only [List.getElem_toArray, List.getElem_cons_zero, List.getElem_cons_succ]); go_simp; with_reducible rfl)
          try simp only [Act.put, List.setIfInBounds_toArray, List.set_cons_zero, List.set_cons_succ, List.getElem_toArray, List.getElem_cons_zero, List.getElem_cons_succ]
          refine E_take (i := 6) (oi := _) (v := ?_) rfl (by kernel_rfl) (fun _ _ _ h => h) ?_ (by assumption) ?_
          rotate_left 1
          · first | (refine Or.inl ⟨by rfl, ?_⟩; intro w hSw; (try dsimp only at hSw); (try simp only [List.getElem_toArray, List.getElem_cons_zero, List.getElem_cons_succ]); go_simp; done) | (refine Or.inl ⟨by rfl, ?_⟩; intro w hSw; (try dsimp only at hSw); (try simp only [List.getElem_toArray, List.getElem_cons_zero, List.getElem_cons_succ]); go_simp; with_reducible rfl)
          try simp only [Act.put, List.setIfInBounds_toArray, List.set_cons_zero, List.set_cons_succ, List.getElem_toArray, List.getElem_cons_zero, List.getElem_cons_succ]
          refine E_take (i := 8) (oi := _) (v := ?_) rfl (by kernel_rfl) (fun _ _ _ h => h) ?_ (by assumption) ?_
          rotate_left 1
          · first | (refine Or.inl ⟨by rfl, ?_⟩; intro w hSw; (try dsimp only at hSw); (try simp only [List.getElem_toArray, List.getElem_cons_zero, List.getElem_cons_succ]); go_simp; done) | (refine Or.inl ⟨by rfl, ?_⟩; intro w hSw; (try dsimp only at hSw); (try simp only [List.getElem_toArray, List.getElem_cons_zero, List.getElem_cons_succ]); go_simp; with_reducible rfl)
          try simp only [Act.put, List.setIfInBounds_toArray, List.set_cons_zero, List.set_cons_succ, List.getElem_toArray, List.getElem_cons_zero, List.getElem_cons_succ]
          refine E_take (i := 9) (oi := _) (v := ?_) rfl (by kernel_rfl) (fun _ _ _ h => h) ?_ (by assumption) ?_
          rotate_left 1
          · first | (refine Or.inl ⟨by rfl, ?_⟩; intro w hSw; (try dsimp only at hSw); (try simp only [List.getElem_toArray, List.getElem_cons_zero, List.getElem_cons_succ]); go_simp; done) | (refine Or.inl ⟨by rfl, ?_⟩; intro w hSw; (try dsimp only at hSw); (try simp only [List.getElem_toArray, List.getElem_cons_zero, List.getElem_cons_succ]); go_simp; with_reducible rfl)
          try simp only [Act.put, List.setIfInBounds_toArray, List.set_cons_zero, List.set_cons_succ, List.getElem_toArray, List.getElem_cons_zero, List.getElem_cons_succ]
          refine E_ready (rs := [7]) (by kernel_rfl) (by decide) ?_
          refine AllE.cons (o := _) rfl (fun K hK => ?_) AllE.nil
          try simp only [List.getElem_toArray, List.getElem_cons_zero, List.getElem_cons_succ]
          go_simp
          refine (HFF.out _ (HAL.out.drew)).mono ?_
          rintro e w6 ⟨rfl, b6⟩
          go_wp2_with fail
          refine hK.out _ _ (KEEP.out _ (undrewC b6)) (fun hHeld => ?_)
          clear hK K
          try simp only [Act.put, List.setIfInBounds_toArray, List.set_cons_zero, List.set_cons_succ, List.getElem_toArray, List.getElem_cons_zero, List.getElem_cons_succ]
          refine E_ready (rs := [10]) (by kernel_rfl) (by decide) ?_
          refine AllE.cons (o := _) rfl (fun K hK => ?_) AllE.nil
          try simp only [List.getElem_toArray, List.getElem_cons_zero, List.getElem_cons_succ]
          go_simp
          refine (CALLP.out _ (undrewC b6)).mono ?_
          rintro e w7 ⟨ov7, vv7, X7, hev, hs7, hst7, hx7⟩
          have HXS7 : Hid (∀ x ∈ X, x ∈ X7) := Lib.hid (fun x hx => hx7 x (HXS.out x hx))
          have HB6 : Hid (Below wt.heap.size wt w6) := Lib.hid (undrewC b6)
          have HS7 := Lib.hid hs7
          have HST7 := Lib.hid ((HSTa.out.on HB6.out).trans hst7)
          have KEEP7 : Hid (w7.cell? ⟨rb, 0, none⟩ = some (.slice pa PX.length pc) ∧ w7.cell? ⟨wr.heap.size, 2, none⟩ = some (.string t.name)) := Lib.hid ⟨(blk hs7.row).1 0 _ rfl, (blk ((HSRa.out.below HB6.out).keep hst7 ((HB6.out.block _ (blk HXT.out).2.2).trans HXT.out) (by decide) (by decide) (by decide))).1 2 _ rfl⟩
          clear hs7 hst7 hx7 b6
          cases r2 with
          | val v i => exact hev.elim
          | vals ws i => exact hev.elim
          | stop qq =>
            subst hev
            go_wp2
            rcases HFIN.out with ⟨q, hq, hz⟩ | ⟨v, hv, hz⟩
            · injection hz with hr hs
              injection hq with hq
              subst hr hs hq
              exact ⟨rfl, ov7, vv7, X7, rfl, HS7.out, HST7.out, HXS7.out⟩
            · cases hv
          | ret v =>
            subst hev
            go_wp2_with fail
            refine hK.out _ _ KEEP7.out (fun hHeld => ?_)
            clear hK K
            try simp only [Act.put, List.setIfInBounds_toArray, List.set_cons_zero, List.set_cons_succ, List.getElem_toArray, List.getElem_cons_zero, List.getElem_cons_succ]
            refine E_last (o := _) (by kernel_rfl) rfl (by kernel_rfl) (fun K hK => ?_)
            try simp only [List.getElem_toArray, List.getElem_cons_zero, List.getElem_cons_succ]
            go_simp
            refine hK.out _ _ ?_
            clear hK K
            go_wp2
            go_ret
            rcases HFIN.out with ⟨q, hq, hz⟩ | ⟨v', hv, hz⟩
            · cases hq
            · injection hz with hr hs
              injection hv with hv
              subst hr hs hv
              exact ⟨ov7, vv7, X7, rfl, HS7.out, HST7.out, HXS7.out⟩
      · have HR := Lib.hid (HC.out.2.2.2.2.2.2 h0 h1 h7)
        have hacc : acc.length = 2 := by
          have h2 := HC.out.1
          have h3 := HAR.out
          obtain ⟨tk, tn, tm⟩ := t
          rw [arZ_op _ _ _ HTB.out h0 h1 h7] at h3
          omega
        obtain ⟨x, y2, rfl⟩ : ∃ x y, acc = [x, y] := by
          match acc, hacc with
          | [x, y], _ => exact ⟨x, y, rfl⟩
        obtain ⟨ga, rfl, hga, ca0⟩ := readI_of (HOR.out.alloc (.cells #[.int .i64 t.kind, .int .i64 t.num, .string t.name] 41)) 0 (by simp)
        obtain ⟨ga', hga', _, ca1⟩ := readI_of (HOR.out.alloc (.cells #[.int .i64 t.kind, .int .i64 t.num, .string t.name] 41)) 1 (by simp)
        injection hga' with hga'
        injection hga' with hga'
        subst hga'
        have b0 : (t.kind == 0) = false := by simpa using h0
        have b1 : (t.kind == 1) = false := by simpa using h1
        have b7 : (t.kind == 7) = false := by simpa using h7
        have HAP := Lib.hid (fun W => i_apply t.kind x y2 W)
        have HRX := Lib.hid (show (r, s') = (RunRes.val (appZ t.kind x y2) y, st) from HR.out)
        obtain ⟨wt, hwt⟩ : ∃ wt, wr.alloc (.cells #[.int .i64 t.kind, .int .i64 t.num, .string t.name] 41) = wt := ⟨_, rfl⟩
        have hx0 : wt.cell? ⟨wr.heap.size, 0, none⟩ = some (.int .i64 t.kind) := (blk (hwt ▸ heap_alloc_new wr _)).1 0 _ rfl
        have x0 : wt.cell? ⟨ga, 0, none⟩ = some (.int .i64 x) := hwt ▸ ca0
        have x1 : wt.cell? ⟨ga, 1, none⟩ = some (.int .i64 y2) := hwt ▸ ca1
        rw [hwt] at HAL HSRa HSTa
        have HWT := Lib.hid hwt
        clear ca0 ca1 hga hacc HR HC hwt h0 h1 h7
        go_upto_region 9 with fail
        rw [HWT.out]
        go_region_held3 (fun w' => w'.cell? ⟨wr.heap.size, 0, none⟩ = some (.int .i64 t.kind) ∧ w'.cell? ⟨ga, 0, none⟩ = some (.int .i64 x) ∧ w'.cell? ⟨ga, 1, none⟩ = some (.int .i64 y2)) (first | exact ⟨hx0, x0, x1⟩) (first
          | (go_at_call 79; ((with_reducible refine (HAP.out _).mono ?_); rintro e w' ⟨rfl, rfl⟩)))
        go_wp2
        go_ret
        have h := HRX.out
        injection h with hr hs
        subst hr hs
        exact ⟨ov', vv', X', rfl, HSRa.out.below (Below.refl wt.heap.size wt).drew, HSTa.out.on (Below.refl wt.heap.size wt).drew, HXS.out⟩
end Go.Proofs.YtcffmdmdojkggaaDoor
