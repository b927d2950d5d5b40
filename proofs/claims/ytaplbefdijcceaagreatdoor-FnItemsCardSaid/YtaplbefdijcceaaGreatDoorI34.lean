/- The model's ProgramOk; ProgramOk, the program's and the model's: one answer; The laws' own functions on rows of strings: the size, and the row made of the argument; The laws' own functions on one token: its size, and the program's token made of it. -/
import Derived.Test.YtaplbefdijcceaaGreatDoorI32
import Derived.Test.YtaplbefdijcceaaGreatDoorI33
import Derived.Test.YtaplbefdijcceaaGreatDoorI10
import Derived.Test.YtaplbefdijcceaaGreatDoorI31
import Derived.Test.YtaplbefdijcceaaGreatDoorRows
import Derived.Test.YtaplbefdijcceaaGreatDoorI00
import Derived.Test.YtaplbefdijcceaaGreatDoorI06
import Derived.Outline
import Derived.Lib.Hide
import Derived.Below
namespace Go.Proofs.YtaplbefdijcceaaGreatDoor
open Go.RowKit Go.Lib
theorem okS_no {p : List PLine} (h : ¬ (∃ h : 0 < p.length, p.length ≤ 60 ∧ p[0].kind = 0 ∧ p[0].name = mainT ∧ p[0].args = [] ∧ (funs p).length ≤ 6)) : ¬ OkS p := fun hc => h hc.1
def lineS (p : List PLine) (q : Nat) : Prop := ∀ k, ∀ h : k < p.length, k < q → lineB p[k] = true ∧ (p[k].kind = 0 → findZ p p[k].name = (k : Int))
set_option maxRecDepth 100000 in
set_option maxHeartbeats 8000000 in
theorem s_progOk (a : Option Addr) (cap : Nat) (X : List LnL) (w : World) (hl : X.length ≤ 1048576) (hr : ReadL 9 49 w a X) (hz : SzAl X) :
  Calls Tryz.prog 11 #[.slice a X.length cap] w (Ans (OkS (plL X)) w) := by
 have HR := hid hr
 have HZ := hid hz
 have hpl := plL_length X
 have HF := hid (s_funLines a cap X w hl hr)
 have HFN := hid (fun (W : World) (hb : Below w.heap.size w W) n => s_findFn a cap X n W (by omega) (hr.below hb))
 have HEN := hid (fun (W : World) (hb : Below w.heap.size w W) (k : Int) => s_endOf a cap X k W (by omega) (hr.below hb))
 have HBO := hid (fun (W : World) (hb : Below w.heap.size w W) (k E : Nat) h1 h2 => s_body a cap X k E W hl (hr.below hb) hz h1 h2)
 clear hr hz
 by_cases h0 : X.length = 0
 ·have HV : Hid (¬ OkS (plL X)) := hid (okS_no (fun h => by obtain ⟨h1, _⟩ := h; omega))
  have hd : ((X.length : Int) == 0) = true := beq_iff_eq.2 (by omega)
  clear hpl
  go_enter Tryz.func11, Tryz.ntmps11
  go_wp2
  go_ret
  exact Ans.of false rfl (by simpa using HV.out) (Below.refl _ _)
 have hd0 : ((X.length : Int) == 0) = false := beq_eq_false_iff_ne.2 (by omega)
 by_cases h60 : 60 < X.length
 ·have HV : Hid (¬ OkS (plL X)) := hid (okS_no (fun h => by obtain ⟨_, h1, _⟩ := h; omega))
  have hd : decide (60 < (X.length : Int)) = true := decide_eq_true (by omega)
  clear hpl
  go_enter Tryz.func11, Tryz.ntmps11
  go_wp2
  go_ret
  exact Ans.of false rfl (by simpa using HV.out) (Below.refl _ _)
 have hd60 : decide (60 < (X.length : Int)) = false := decide_eq_false (by omega)
 have hx0 : 0 < X.length := by omega
 have hxp : 0 < (plL X).length := by omega
 have hx0i : (0 : Int) < (X.length : Int) := by omega
 obtain ⟨g, rfl, hg, ⟨c0, c1, c2, _⟩, hm⟩ := HR.out 0 hx0
 obtain ⟨xa, _, xc, _, ea, _, _, _, _, _⟩ := inMem_shape hm
 rw [ea] at c2
 have e0 : w.cell? ⟨g, 0, none⟩ = some (.int .i64 X[0].kind) := c0
 have e1 : w.cell? ⟨g, 1, none⟩ = some (.string X[0].name) := c1
 have e2 : w.cell? ⟨g, 2, none⟩ = some (.slice xa X[0].args.length xc) := c2
 have HP0 : Hid ((plL X)[0].kind = X[0].kind ∧ (plL X)[0].name = X[0].name ∧ (plL X)[0].args = X[0].args) := hid (by rw [pl_at X 0 hx0]; exact ⟨rfl, rfl, rfl⟩)
 have hn60 : X.length ≤ 60 := by omega
 clear c0 c1 c2 hm ea h0 h60
 by_cases hk : X[0].kind = 0
 case neg =>
  have HV : Hid (¬ OkS (plL X)) := hid (okS_no (fun h => by obtain ⟨_, _, h1, _⟩ := h; exact hk (HP0.out.1 ▸ h1)))
  have hd : (X[0].kind != 0) = true := by simpa using hk
  generalize X[0].kind = kd at *
  clear hpl hk
  go_enter Tryz.func11, Tryz.ntmps11
  go_wp2
  go_ret
  exact Ans.of false rfl (by simpa using HV.out) (Below.refl _ _)
 rw [hk] at e0
 by_cases hn : X[0].name = mainT
 case neg =>
  have HV : Hid (¬ OkS (plL X)) := hid (okS_no (fun h => by obtain ⟨_, _, _, h1, _⟩ := h; exact hn (HP0.out.2.1 ▸ h1)))
  have hd : ¬ X[0].name.toList = [109, 97, 105, 110] := fun e => by
   have h1 := str_ne _ _ hn
   have h2 : mainT.toList = [109, 97, 105, 110] := by rw [ByteArray.toList_eq]; rfl
   rw [e, h2] at h1
   exact absurd h1 (by decide)
  generalize X[0].name = nm at *
  clear hpl hn
  go_enter Tryz.func11, Tryz.ntmps11
  go_wp2
  go_ret
  exact Ans.of false rfl (by simpa using HV.out) (Below.refl _ _)
 rw [hn] at e1
 have e1' : w.cell? ⟨g, 1, none⟩ = some (.string ⟨#[109, 97, 105, 110]⟩) := e1
 by_cases ha : X[0].args.length = 0
 case neg =>
  have HV : Hid (¬ OkS (plL X)) := hid (okS_no (fun h => by
   obtain ⟨_, _, _, _, h1, _⟩ := h
   rw [HP0.out.2.2] at h1
   exact ha (by rw [h1]; rfl)))
  have hd : ((X[0].args.length : Int) != 0) = true := bne_iff_ne.2 (fun h => ha (by omega))
  generalize X[0].args.length = na at *
  clear hpl hn hk e1 ha
  go_enter Tryz.func11, Tryz.ntmps11
  go_wp2
  go_ret
  exact Ans.of false rfl (by simpa using HV.out) (Below.refl _ _)
 have HA0 : Hid (X[0].args = []) := hid (List.length_eq_zero_iff.1 ha)
 have hda : ((X[0].args.length : Int) != 0) = false := bne_eq_false_iff_eq.2 (by omega)
 have HKN : Hid (X[0].kind = 0 ∧ X[0].name = mainT) := hid ⟨hk, hn⟩
 have hfl := funI_length (plL X)
 obtain ⟨n, hnn⟩ : ∃ n, (funI (plL X)).length = n := ⟨_, rfl⟩
 have HNF : Hid (n = (funs (plL X)).length) := hid (by rw [← hnn]; exact hfl)
 have HL0 : Hid ((∃ h : 0 < (plL X).length, (plL X).length ≤ 60 ∧ (plL X)[0].kind = 0 ∧ (plL X)[0].name = mainT ∧ (plL X)[0].args = [] ∧ (funs (plL X)).length ≤ 6) ↔ n ≤ 6) := hid (by
  constructor
  ·rintro ⟨_, _, _, _, _, h6⟩
   rw [HNF.out]
   exact h6
  ·intro h
   exact ⟨hxp, by omega, HP0.out.1.trans HKN.out.1, HP0.out.2.1.trans HKN.out.2, HP0.out.2.2.trans HA0.out, by rw [← HNF.out]; exact h⟩)
 have HNN := hid hnn
 generalize X[0].args.length = na at *
 clear hnn hfl hk hn e1 ha
 go_enter Tryz.func11, Tryz.ntmps11
 go_wp2_with fail
 refine HF.out.mono ?_
 rintro _ w1 ⟨v, rfl, hown, b1⟩
 obtain ⟨av, cv, rfl⟩ := owns3_shape hown
 have HB1 := hid b1
 have z1 := b1.size
 rw [HNN.out]
 clear b1 hown e0 e1' e2
 by_cases h6 : 6 < n
 ·have HV : Hid (¬ OkS (plL X)) := hid (fun h => by have := HL0.out.1 h.1; omega)
  have hd : decide (6 < (n : Int)) = true := decide_eq_true (by omega)
  go_wp2
  go_ret
  exact Ans.of false rfl (by simpa using HV.out) HB1.out
 have hd6 : decide (6 < (n : Int)) = false := decide_eq_false (by omega)
 have HOK : Hid ((lineS (plL X) X.length ∧ followS (plL X) X.length 0) ↔ OkS (plL X)) := hid (by
  have e : followS (plL X) X.length 0 = followS (plL X) (plL X).length 0 := by rw [hpl]
  rw [e]
  unfold OkS lineS
  constructor
  ·rintro ⟨h1, h2⟩
   exact ⟨HL0.out.2 (by omega), fun k h => h1 k h (by omega), h2⟩
  ·rintro ⟨_, h1, h2⟩
   exact ⟨fun k h _ => h1 k h, h2⟩)
 go_wp2_with fail
 go_loopw [3] (fun i wr => ∃ q : Nat, q ≤ X.length ∧ i = .int .i64 (q : Int) ∧ Hid (lineS (plL X) q) ∧ Below w.heap.size w wr) (fun i _ => X.length - (RowKit.intOf i).toNat)
 case atStart => exact ⟨0, Nat.zero_le _, rfl, hid (fun k h hk => by omega), HB1.out⟩
 case round =>
  rename World => wr
  obtain ⟨q, hq, rfl, HP, hbel⟩ := hrel
  have HB := hid hbel
  have hB := hbel.size
  by_cases hlt : q < X.length
  ·have hqp : q < (plL X).length := by omega
   obtain ⟨g', hga, hg', ⟨c0, c1, c2, c3⟩, hm⟩ := (HR.out.below hbel) q hlt
   injection hga with hga
   injection hga with hga
   subst hga
   have hsm := HZ.out _ (List.getElem_mem hlt)
   have HNX : Hid (lineB X[q].p = true → (X[q].kind = 0 → findZ (plL X) X[q].name = (q : Int)) → lineS (plL X) (q + 1)) := hid (fun h1 h2 k hk hkq => by
    by_cases hkk : k = q
    ·subst hkk
     rw [pl_at X k hlt]
     exact ⟨h1, h2⟩
    ·exact HP.out k hk (by omega))
   have HXX : Hid (OkS (plL X) → lineB X[q].p = true ∧ (X[q].kind = 0 → findZ (plL X) X[q].name = (q : Int))) := hid (fun h => by
    have := (HOK.out.2 h).1 q hqp hlt
    rw [pl_at X q hlt] at this
    exact this)
   obtain ⟨ya, yb, yc, yd, ea, ee, rs, rt, _, _⟩ := inMem_shape hm
   rw [ea] at c2
   rw [ee] at c3
   have HLK := hid (s_lineok X[q].p ya yb yc yd wr rs rt (by have := hsm.2.1; omega) (fun s hs => small_max (hsm.2.2.1 s hs)) (small_max hsm.1) hsm.2.2.2.1 (fun j hj => small_max (hsm.2.2.2.2 _ (List.getElem_mem hj))))
   obtain ⟨r, hr⟩ : ∃ r, lineB X[q].p = r := ⟨_, rfl⟩
   rw [hr] at HLK HNX HXX
   obtain ⟨x, hx⟩ : ∃ x, X[q] = x := ⟨_, rfl⟩
   rw [hx] at c0 c1 c2 c3 HLK HNX HXX
   obtain ⟨kk, nm, gs, ex, va, ve⟩ := x
   dsimp only [LnL.p] at c0 c1 c2 c3 HLK HNX HXX
   have HC0 := hid c0
   have HC1 := hid c1
   have k0 : (0 : Int) ≤ (q : Int) := by omega
   have k1 : (q : Int) < (X.length : Int) := by omega
   clear hm ea ee hr hx rs rt hsm hbel HP
   cases r
   ·have HV : Hid (¬ OkS (plL X)) := hid (fun h => by have := (HXX.out h).1; cases this)
    clear HXX HNX
    go_wp2_with fail
    refine HLK.out.mono ?_
    rintro _ w4 ⟨rfl, b4⟩
    have HB4 : Hid (Below w.heap.size w w4) := hid (HB.out.trans (b4.mono hB))
    clear b4 c0 c1 c2 c3
    go_wp2
    go_ret
    exact Ans.of false rfl (by simpa using HV.out) HB4.out
   ·by_cases hkk : kk = 0
    ·subst hkk
     have HN1 := hid (fun h => HNX.out rfl (fun _ => h))
     have HX1 := hid (fun (h : OkS (plL X)) => (HXX.out h).2 rfl)
     clear HNX HXX
     go_wp2_with fail
     refine HLK.out.mono ?_
     rintro _ w4 ⟨rfl, b4⟩
     have HB4 : Hid (Below w.heap.size w w4) := hid (HB.out.trans (b4.mono hB))
     have z4 := HB4.out.size
     have d0 : w4.cell? ⟨g, q * 4, none⟩ = some (.int .i64 0) := (b4.cell (p := ⟨g, _, none⟩) hg').trans HC0.out
     have d1 : w4.cell? ⟨g, q * 4 + 1, none⟩ = some (.string nm) := (b4.cell (p := ⟨g, _, none⟩) hg').trans HC1.out
     have HFQ := hid (HFN.out w4 HB4.out nm)
     obtain ⟨r, hr⟩ : ∃ r, findZ (plL X) nm = r := ⟨_, rfl⟩
     rw [hr] at HFQ HN1 HX1
     clear b4 c0 c1 c2 c3 hr
     by_cases hrq : r = (q : Int)
     ·subst hrq
      have HN := hid (HN1.out rfl)
      clear HN1 HX1
      go_wp2_with fail
      refine HFQ.out.mono ?_
      rintro _ w5 ⟨rfl, b5⟩
      have HB5 : Hid (Below w.heap.size w w5) := hid (HB4.out.trans (b5.mono z4))
      clear b5 d0 d1
      go_wp2
      go_roundw
      case rel => exact ⟨q + 1, by omega, by go_num, HN, HB5.out⟩
      case measure => simp [RowKit.intOf]; omega
     ·have HV : Hid (¬ OkS (plL X)) := hid (fun h => hrq (HX1.out h))
      have hdr : (r != (q : Int)) = true := by simpa using hrq
      clear HN1 HX1 hrq
      go_wp2_with fail
      refine HFQ.out.mono ?_
      rintro _ w5 ⟨rfl, b5⟩
      have HB5 : Hid (Below w.heap.size w w5) := hid (HB4.out.trans (b5.mono z4))
      clear b5 d0 d1
      go_wp2
      go_ret
      exact Ans.of false rfl (by simpa using HV.out) HB5.out
    ·have HN := hid (HNX.out rfl (fun h => absurd h hkk))
     have hdk : (kk == 0) = false := by simpa using hkk
     clear HNX HXX hkk
     go_wp2_with fail
     refine HLK.out.mono ?_
     rintro _ w4 ⟨rfl, b4⟩
     have HB4 : Hid (Below w.heap.size w w4) := hid (HB.out.trans (b4.mono hB))
     have d0 : w4.cell? ⟨g, q * 4, none⟩ = some (.int .i64 kk) := (b4.cell (p := ⟨g, _, none⟩) hg').trans HC0.out
     clear b4 c0 c1 c2 c3
     go_wp2
     go_roundw
     case rel => exact ⟨q + 1, by omega, by go_num, HN, HB4.out⟩
     case measure => simp [RowKit.intOf]; omega
  ·have hqq : q = X.length := by omega
   have HLS : Hid (lineS (plL X) X.length) := hid (hqq ▸ HP.out)
   have HOK2 : Hid (followS (plL X) X.length 0 ↔ OkS (plL X)) := hid (by
    rw [← HOK.out]
    exact ⟨fun h => ⟨HLS.out, h⟩, fun h => h.2⟩)
   subst hqq
   clear hbel HP HOK hlt hd6 hda hd60 hd0
   go_wp2_with fail
   go_loopw [4, 5] (fun i _ wx => ∃ (f m : Nat), m ≤ X.length ∧ X.length ≤ m + f ∧ i = .int .i64 (m : Int) ∧ Hid (followS (plL X) f m ↔ followS (plL X) X.length 0) ∧ Below w.heap.size w wx) (fun i _ _ => X.length - (RowKit.intOf i).toNat)
   case atStart => exact ⟨X.length, 0, Nat.zero_le _, by omega, rfl, hid Iff.rfl, HB.out⟩
   case round =>
    rename World => wx
    obtain ⟨f, m, hm, hmf, rfl, HQ, hbx⟩ := hrel
    have HBX := hid hbx
    have hBX := hbx.size
    by_cases hlm : m < X.length
    ·have hmp : m < (plL X).length := by omega
     obtain ⟨f', rfl⟩ : ∃ f', f = f' + 1 := ⟨f - 1, by omega⟩
     obtain ⟨g', hga, hg', ⟨c0, _, _, _⟩, _⟩ := (HR.out.below hbx) m hlm
     injection hga with hga
     injection hga with hga
     subst hga
     have HST : Hid ((X[m].kind = 0 ∧ 0 ≤ beZ (plL X) (m : Int) ∧ bodyOk (plL X) m ∧ followS (plL X) f' ((beZ (plL X) (m : Int)).toNat + 1)) ↔ OkS (plL X)) := hid (by
      rw [← HOK2.out, ← HQ.out, followS, if_neg (by omega), lkZ_at _ m hmp, pl_kind X m hlm])
     have HEM := hid (HEN.out wx hbx m)
     have HBM : Hid (0 ≤ beZ (plL X) (m : Int) → ∃ E : Nat, beZ (plL X) (m : Int) = (E : Int) ∧ m < E ∧ E < X.length) := hid (fun h => by
      obtain ⟨j, h1, _, _, h2, h3⟩ := beZ_is (plL X) (m : Int) h
      exact ⟨(beZ (plL X) (m : Int)).toNat, by omega, by omega, by omega⟩)
     have HC0 := hid c0
     generalize X[m].kind = kd at *
     have k0 : (0 : Int) ≤ (m : Int) := by omega
     have k1 : (m : Int) < (X.length : Int) := by omega
     clear hbx HQ
     by_cases hkd : kd = 0
     ·subst hkd
      by_cases hE0 : 0 ≤ beZ (plL X) (m : Int)
      ·obtain ⟨E, hE, hmE, hEX⟩ := HBM.out hE0
       have HBD : Hid ((bodyOk (plL X) m ∧ followS (plL X) f' (E + 1)) ↔ OkS (plL X)) := hid (by
        rw [← HST.out, hE, Int.toNat_natCast]
        exact ⟨fun h => ⟨rfl, by omega, h.1, h.2⟩, fun h => ⟨h.2.2.1, h.2.2.2⟩⟩)
       have HBK : Hid (bodyOk (plL X) m ↔ ((locZ (plL X) (m : Int)).length ≤ 8 ∧ bodyL (plL X) m (locZ (plL X) (m : Int)) 0 (m + 1) (segZ (plL X) (m + 1) E))) := hid (by unfold bodyOk; rw [hE, Int.toNat_natCast])
       rw [hE] at HEM
       have hdE : decide ((E : Int) < 0) = false := decide_eq_false (by omega)
       clear hE hE0 HST HBM
       go_wp2_with fail
       refine HEM.out.mono ?_
       rintro _ w5 ⟨rfl, b5⟩
       have HB5 : Hid (Below w.heap.size w w5) := hid (HBX.out.trans (b5.mono hBX))
       have z5 := HB5.out.size
       have d0 : w5.cell? ⟨g, m * 4, none⟩ = some (.int .i64 0) := (b5.cell (p := ⟨g, _, none⟩) hg').trans HC0.out
       have HBC := hid (HBO.out w5 HB5.out m E hmE hEX)
       clear b5 c0
       go_wp2_with fail
       refine HBC.out.mono ?_
       rintro _ w6 ⟨b, rfl, hb, b6⟩
       have HBB := hid hb
       have HB6 : Hid (Below w.heap.size w w6) := hid (HB5.out.trans (b6.mono z5))
       clear b6 hb d0
       cases b
       ·have HV : Hid (¬ OkS (plL X)) := hid (fun h => by have := HBB.out.2 (HBK.out.1 (HBD.out.2 h).1); cases this)
        clear HBB HBK HBD
        go_wp2
        go_ret
        exact Ans.of false rfl (by simpa using HV.out) HB6.out
       ·have HN : Hid (followS (plL X) f' (E + 1) ↔ followS (plL X) X.length 0) := hid (by
         rw [HOK2.out, ← HBD.out]
         exact ⟨fun h => ⟨HBK.out.2 (HBB.out.1 rfl), h⟩, fun h => h.2⟩)
        clear HBB HBK HBD
        go_wp2
        go_roundw
        case rel => exact ⟨f', E + 1, by omega, by omega, by go_num, HN, HB6.out⟩
        case measure => simp [RowKit.intOf]; omega
      ·have HV : Hid (¬ OkS (plL X)) := hid (fun h => hE0 (HST.out.2 h).2.1)
       obtain ⟨e, he⟩ : ∃ e, beZ (plL X) (m : Int) = e := ⟨_, rfl⟩
       rw [he] at HEM hE0
       have hdE : decide (e < 0) = true := decide_eq_true (by omega)
       clear he HST HBM
       go_wp2_with fail
       refine HEM.out.mono ?_
       rintro _ w5 ⟨rfl, b5⟩
       have HB5 : Hid (Below w.heap.size w w5) := hid (HBX.out.trans (b5.mono hBX))
       have d0 : w5.cell? ⟨g, m * 4, none⟩ = some (.int .i64 0) := (b5.cell (p := ⟨g, _, none⟩) hg').trans HC0.out
       clear b5 c0
       go_wp2
       go_ret
       exact Ans.of false rfl (by simpa using HV.out) HB5.out
     ·have HV : Hid (¬ OkS (plL X)) := hid (fun h => hkd (HST.out.2 h).1)
      have hdk : (kd != 0) = true := by simpa using hkd
      generalize beZ (plL X) (m : Int) = e at *
      clear HST HBM hkd
      go_wp2_with fail
      refine HEM.out.mono ?_
      rintro _ w5 ⟨rfl, b5⟩
      have HB5 : Hid (Below w.heap.size w w5) := hid (HBX.out.trans (b5.mono hBX))
      have d0 : w5.cell? ⟨g, m * 4, none⟩ = some (.int .i64 kd) := (b5.cell (p := ⟨g, _, none⟩) hg').trans HC0.out
      clear b5 c0
      go_wp2
      go_ret
      exact Ans.of false rfl (by simpa using HV.out) HB5.out
    ·have HV : Hid (OkS (plL X)) := hid (by
      rw [← HOK2.out, ← HQ.out]
      cases f with
      | zero => exact trivial
      | succ f => rw [followS, if_pos (by omega)]; exact trivial)
     have hmm : m = X.length := by omega
     subst hmm
     clear hbx HQ
     go_wp2
     go_ret
     exact Ans.of true rfl (by simpa using HV.out) HBX.out
end Go.Proofs.YtaplbefdijcceaaGreatDoor

namespace Go.Proofs.YtaplbefdijcceaaGreatDoor
open Go.RowKit Go.Lib
noncomputable def pokB (p : List PLine) : Bool := @decide (OkI p) (Classical.propDecidable _)
theorem pokB_iff (p : List PLine) : pokB p = true ↔ OkI p := by unfold pokB; exact @decide_eq_true_iff _ (Classical.propDecidable _)
theorem pokB_of {p : List PLine} {b : Bool} (h : b = true ↔ OkI p) : b = pokB p := Bool.eq_iff_iff.2 (h.trans (pokB_iff p).symm)
theorem i_progOkB (a : Option Addr) (cap : Nat) (X : List LnL) (w : World) (hl : X.length ≤ 1048576) (hcap : X.length ≤ cap) (hr : ReadL 9 49 w a X) (hz : SzAl X) (hsh : Shapes w) :
    Calls Tryz.prog 48 #[.slice a X.length cap] w fun e w' => e = .returned (.bool (pokB (plL X))) ∧ Below w.heap.size w w' := by
  refine (i_progOk a cap X w hl hcap hr hz hsh).mono ?_
  rintro e w' ⟨b, rfl, hb, h⟩
  exact ⟨by rw [pokB_of hb], h⟩
theorem s_progOkB (a : Option Addr) (cap : Nat) (X : List LnL) (w : World) (hl : X.length ≤ 1048576) (hr : ReadL 9 49 w a X) (hz : SzAl X) :
    Calls Tryz.prog 11 #[.slice a X.length cap] w fun e w' => e = .returned (.bool (pokB (plL X))) ∧ Below w.heap.size w w' := by
  refine (s_progOk a cap X w hl hr hz).mono ?_
  rintro e w' ⟨b, rfl, hb, h⟩
  exact ⟨by rw [pokB_of (hb.trans (ok_iff _).symm)], h⟩
theorem own_cap4 {B T n s m c : Nat} {a : Option Addr} {w : World} {xs : List Value} (h : w.ownsRow B T s (.slice a m c) n xs) : n ≤ c := by
  rcases h.2 with ⟨_, h0⟩ | ⟨g, cap, cur, e, _, _, hn, _⟩
  · omega
  · injection e with _ _ e3
    omega
end Go.Proofs.YtaplbefdijcceaaGreatDoor

namespace Go.Proofs.YtaplbefdijcceaaGreatDoor
open Go.RowKit Go.Lib
end Go.Proofs.YtaplbefdijcceaaGreatDoor

namespace Go.Proofs.YtaplbefdijcceaaGreatDoor
open Go.RowKit Go.Lib
end Go.Proofs.YtaplbefdijcceaaGreatDoor
