/- The walk of the law on expressions. -/
import Derived.Test.YtbdplcbmfcfigaaDoorCards
import Derived.Test.YtbdplcbmfcfigaaDoorTie
import Derived.Test.YtbdplcbmfcfigaaDoorDrawProgram
import Derived.Test.YtbdplcbmfcfigaaDoorBig
import Derived.Test.YtbdplcbmfcfigaaDoorErrs
import Derived.Test.YtbdplcbmfcfigaaDoorFmtImpl
import Derived.Test.YtbdplcbmfcfigaaDoorPexImpl
import Derived.Test.YtbdplcbmfcfigaaDoorOpsImpl
import Derived.Test.YtbdplcbmfcfigaaDoorSameToks
import Derived.Test.YtbdplcbmfcfigaaDoorExprAgain
import Derived.Deep.DeepHandedRow
import Derived.LaidMore
import Derived.ProofKit
import Derived.OpenShut
import Derived.ShutString
import Derived.ChangeOld
import Derived.Below
import Derived.Carry
namespace Go.Proofs.YtbdplcbmfcfigaaDoor.fnExpressions
open Go.ChangeShapes Go.WideShapes Go.ChangeAt Go.RowKit Go.Lib
open Go.ChangeMaps (open_string shut_string)

theorem infoStr : (Tryd.prog.info? 9).map (fun i => (i.zero, i.size, i.bytes)) = some (some (.string ⟨#[]⟩), 1, 16) := by kernel_rfl
theorem env_of {w : World} (hL : laidMet Tryd.prog Rows.fnExpressionsRow.laid w) : Env w := ⟨errs hL, pow_of hL⟩
theorem below_app1 {B e n s : Nat} {w0 wr w1 : World} {X : Obj} {v : Value} {xs : List Value} (hown : wr.ownsRow B e s v n xs) (hbel : Below B w0 wr) (hB : B ≤ wr.heap.size)
    (hg : (wr.alloc X).grownBy w1 v.ownBlock) : Below B w0 w1 :=
  (hbel.alloc hB X).grown hg (by simp; omega) (fun k hk => (hown.lt k hk).1)
/-- The state between two operands. -/
def Ops (ex : List TokL) (r i m : Nat) (y : Int) : Prop := i + m = r ∧ (opsFrom ex r 1).drop i = opsFrom ex m y ∧ endAll ex m y = (ex.length : Int)
theorem Ops.at {ex : List TokL} {r i m : Nat} {y : Int} (h : Ops ex r i (m + 1) y) : ∃ hi : i < (opsFrom ex r 1).length, (opsFrom ex r 1)[i] = y := by
  obtain ⟨h1, h2, _⟩ := h
  have hi : i < (opsFrom ex r 1).length := by rw [opsFrom_length]; omega
  refine ⟨hi, ?_⟩
  rw [List.drop_eq_getElem_cons hi] at h2
  exact (List.cons.inj h2).1
theorem Ops.next {ex : List TokL} {r i m : Nat} {y : Int} (h : Ops ex r i (m + 1) y) : Ops ex r (i + 1) m (endZ ex y) := by
  obtain ⟨h1, h2, h3⟩ := h
  have hi : i < (opsFrom ex r 1).length := by rw [opsFrom_length]; omega
  rw [List.drop_eq_getElem_cons hi] at h2
  exact ⟨by omega, (List.cons.inj h2).2, h3⟩

set_option maxRecDepth 100000 in
set_option maxHeartbeats 8000000 in
theorem walk (a0 : Option Addr) (len0 cap0 : Nat) (z0 : List Int) (w : World) (w0 : IsRow .u8 w a0 len0 cap0 z0) (hL : laidMet Tryd.prog Rows.fnExpressionsRow.laid w) :
    Calls Tryd.prog 3 #[.slice a0 len0 cap0] w fun e w' => e = .returned (.bool true) ∧ Below w.heap.size w w' := by
  have HE := Lib.hid (env_of hL)
  have HC := Lib.hid w0
  obtain ⟨i0, hi, hz0, hz1, hz2⟩ := info_parts infoStr
  have hlen : len0 ≤ 9223372036854775807 := by
    rcases w0 with ⟨_, rfl, _, _⟩ | ⟨x, _, h1, h2, _⟩
    · omega
    · unfold maxLen at h2; omega
  clear w0 hL
  by_cases hb : 1048576 < len0
  · go_enter Tryd.func3, Tryd.ntmps3
    go_wp2_with fail
    refine (big_yes a0 len0 cap0 _ hb hlen).mono ?_
    rintro e w' ⟨rfl, rfl⟩
    go_wp2
    go_ret
    exact ⟨rfl, Below.refl _ _⟩
  go_enter Tryd.func3, Tryd.ntmps3
  go_wp2_with fail
  refine (big_no a0 len0 cap0 _ (by omega)).mono ?_
  rintro e w' ⟨rfl, rfl⟩
  go_wp2_with fail
  refine (d_program a0 len0 cap0 z0 _ HC.out (by omega)).mono ?_
  rintro e w1 ⟨v, X, rfl, O1, hne, A1, ok1, x0, x1, b1⟩
  have HA1 := Lib.hid A1
  have HOK := Lib.hid ok1
  have HB1 := Lib.hid b1
  have hs1 := b1.size
  obtain ⟨g, cp, rfl, hgB, hgl, hgc⟩ := own_form O1 x0
  have HG := Lib.hid hgc
  have dX : decide ((0 : Int) < (X.length : Int)) = true := decide_eq_true (by omega)
  clear O1 A1 ok1 b1 hne hgc
  go_wp2_with fail
  go_loopw [4, 5, 6, 7, 8, 9, 10, 11, 12] (fun k _ _ _ _ _ _ _ _ wr => ∃ j : Nat, j ≤ X.length ∧ k = .int .i64 (j : Int) ∧ Below w1.heap.size w1 wr) (fun k _ _ _ _ _ _ _ _ _ => X.length - (RowKit.intOf k).toNat)
  case atStart => exact ⟨0, Nat.zero_le _, rfl, Below.refl _ _⟩
  case round =>
    rename World => wb
    obtain ⟨j, hj, rfl, hbel⟩ := hrel
    have HBL := Lib.hid hbel
    have hsz := hbel.size
    by_cases hlt : j < X.length
    · have hmem := List.getElem_mem hlt
      have hxo := HOK.out _ hmem
      have hin := owns3_below (HA1.out _ hmem).2 hbel
      have c3 : w1.cell? ⟨g, j * 4 + 3, none⟩ = some X[j].ve := by
        have := HG.out (j * 4 + 3) X[j].ve (by rw [lnsV_get X j 3 hlt (by omega)]; rfl)
        rw [add_plain, Nat.zero_add] at this
        exact this
      have d3 := (hbel.cell (p := ⟨g, j * 4 + 3, none⟩) hgl).trans c3
      obtain ⟨x, hx⟩ : ∃ x, X[j] = x := ⟨_, rfl⟩
      rw [hx] at hxo hin d3
      have hex := hxo.expr
      have hro := hin
      obtain ⟨ae, ce, hve⟩ := owns3_shape hro
      rw [hve] at d3 hro
      have HRT := Lib.hid (readT_of hro)
      obtain ⟨ex, hee⟩ : ∃ ex, x.expr = ex := ⟨_, rfl⟩
      rw [hee] at hex HRT d3
      have k0 : (0 : Int) ≤ (j : Int) := by omega
      have k1 : (j : Int) < (X.length : Int) := by omega
      clear hmem hxo hin c3 hx hro hve hee hbel
      by_cases h0 : ex.length = 0
      · have hn : ex = [] := List.length_eq_zero_iff.1 h0
        subst hn
        clear HRT hex h0
        go_wp2
        go_roundw
        case rel => exact ⟨j + 1, by omega, by go_num, HBL.out⟩
        case measure => simp [RowKit.intOf]; omega
      have hB : exprB ex = true := by
        rcases hex with rfl | h
        · exact absurd rfl h0
        · exact h
      obtain ⟨l0, l20⟩ := expr_len ex hB
      have hn0 : ((ex.length : Int) == 0) = false := beq_eq_false_iff_ne.2 (by omega)
      have HEX := Lib.hid hB
      have HNM := Lib.hid (expr_names ex hB)
      clear hex h0 hB
      go_wp2_with fail
      have O0 := World.ownsRow_lit (base := wb.heap.size) (e := 9) (size := 1) wb #[] 0 (Nat.le_refl _) (by decide) rfl
      have HO0 := Lib.hid O0
      have HB0 : Hid (Below w1.heap.size w1 (wb.alloc (.cells #[] 9))) := Lib.hid (HBL.out.alloc hsz _)
      have HRT0 := Lib.hid (HRT.out.below ((Below.refl _ _).alloc (Nat.le_refl _) (.cells #[] 9)))
      clear O0 d3
      go_loopw [6, 7] (fun s i wx => ∃ m : Nat, m ≤ ex.length ∧ i = .int .i64 (m : Int) ∧ wx.ownsRow wb.heap.size 9 1 s (fmtsL (ex.take m)).length (strV (fmtsL (ex.take m))) ∧ Below wb.heap.size wb wx) (fun _ i _ => ex.length - (RowKit.intOf i).toNat)
      case atStart => exact ⟨0, Nat.zero_le _, rfl, HO0.out, (Below.refl _ _).alloc (Nat.le_refl _) _⟩
      case round =>
        obtain ⟨m, hm, rfl, hown, hbx⟩ := hrel
        have HBX := Lib.hid hbx
        have hzx := hbx.size
        have HRX := Lib.hid (HRT.out.below hbx)
        have hln : (fmtsL (ex.take m)).length = m := by rw [fmtsL_length, List.length_take]; omega
        have HEX2 := Lib.hid (HE.out.on (HB1.out.trans ((HBL.out.trans (hbx.mono hsz)).mono hs1)))
        clear hbx
        by_cases hlm : m < ex.length
        · obtain ⟨ge, rfl, hge, e0, e1, e2⟩ := HRX.out m hlm
          have hns := HNM.out m hlm
          have HNXT := Lib.hid (fmtsL_next ex m hlm)
          obtain ⟨t, ht⟩ : ∃ t, ex[m] = t := ⟨_, rfl⟩
          rw [ht] at e0 e1 e2 hns HNXT
          have HF := Lib.hid (fun W hW => i_fmt t.kind t.num t.name W hns hW)
          obtain ⟨r, hr⟩ : ∃ r, fmtT t = r := ⟨_, rfl⟩
          rw [show fmtT ⟨t.kind, t.num, t.name⟩ = r from hr] at HF
          rw [hr] at HNXT
          have k0' : (0 : Int) ≤ (m : Int) := by omega
          have k1' : (m : Int) < (ex.length : Int) := by omega
          obtain ⟨Q, hQ⟩ : ∃ Q, fmtsL (ex.take m) = Q := ⟨_, rfl⟩
          rw [hQ] at hown hln HNXT
          have h63 : Q.length + 1 ≤ maxLen := by unfold maxLen; omega
          have hby : (Q.length + 1) * 16 ≤ 140737488355328 := by omega
          have HO := Lib.hid hown
          clear ht hr hQ hown hns hln
          go_wp2_with fail
          refine (HF.out _ HEX2.out.2).mono ?_
          rintro e w3 ⟨rfl, b3⟩
          have hown := owns_below HO.out b3
          have HB3 := Lib.hid (HBX.out.trans (b3.mono hzx))
          have hz3 := HB3.out.size
          clear b3 e0 e1 e2
          go_wp2_with (at_builtin; refine wpList_append_own _ rfl _ _ 26 rfl wb.heap.size 9 i0 _ 1 16 Tryd.underlying26 hi hz0 hz1 hz2 rfl (by decide) _ _ _ rfl (hown.alloc _) ⟨w3.heap.size, 0, none⟩ 1 1 [.string r] rfl rfl ?c1 ?c2 h63 hby ?c5 ?_)
          case c1 => exact cell_one_new _ _ _
          case c2 => intro u hu; simp at hu; subst hu; rfl
          case c5 => simp; omega
          intro v' w4 hown4 hgrow _
          have HO4 := Lib.hid (owns_strs (l := Q ++ [r]) hown4 (by rw [strV_append]; rfl))
          have HB4 := Lib.hid ((HB3.out.alloc hz3 _).grown hgrow (by simp; omega) (fun k hk => by have := (hown.lt k hk).1; omega))
          clear hown4 hgrow hown
          go_wp2
          go_roundw
          case rel => exact ⟨m + 1, by omega, by go_num, HNXT.out ▸ HO4.out, HB4.out⟩
          case measure => simp [RowKit.intOf]; omega
        · have hme : m = ex.length := by omega
          have hall : ex.take m = ex := List.take_of_length_le (by omega)
          rw [hall] at hown
          have hpe := pe_again ex HEX.out
          have hzs := fmtsL_size ex
          have hwl : (fmtsL ex).length = ex.length := fmtsL_length ex
          obtain ⟨ws, hws⟩ : ∃ ws, fmtsL ex = ws := ⟨_, rfl⟩
          rw [hws] at hown hpe hzs hwl
          obtain ⟨av, cv, rfl⟩ := owns_shape hown
          have S := Lib.hid (fun W h hW => i_pexpr av cv ws W (by omega) hzs h hW)
          rw [hpe] at S
          have RW := Lib.hid (reads_of hown)
          clear hall hpe hzs hwl hws hown hln hme hm
          go_wp2_with fail
          refine (S.out _ RW.out HEX2.out).mono ?_
          rintro e w3 ⟨v3, rfl, O3, b3⟩
          obtain ⟨a3, c3, rfl⟩ := owns3_shape O3
          have R3 := Lib.hid (readT_of O3)
          have RE := Lib.hid (HRX.out.below b3)
          have HB3 := Lib.hid (HBX.out.trans (b3.mono hzx))
          have hz3 := HB3.out.size
          clear b3 O3
          go_wp2_with fail
          refine (l_sameToks ae a3 ce c3 ex _ RE.out R3.out (by omega)).mono ?_
          rintro e w4 ⟨rfl, b4⟩
          have R4 := Lib.hid (R3.out.below b4)
          have RE4 := Lib.hid (RE.out.below b4)
          have HB4 := Lib.hid (HB3.out.trans (b4.mono hz3))
          have hz4 := HB4.out.size
          clear b4
          have SO := Lib.hid (fun W a c h => HEX.out ▸ i_exprok a c ex W (by omega) h HNM.out)
          go_wp2_with fail
          refine (SO.out _ a3 c3 R4.out).mono ?_
          rintro e w5 ⟨rfl, b5⟩
          have RE5 := Lib.hid (RE4.out.below b5)
          have HB5 := Lib.hid (HB4.out.trans (b5.mono hz4))
          have hz5 := HB5.out.size
          clear b5
          have hend : endZ ex 0 = (ex.length : Int) := by have := HEX.out; unfold exprB at this; rw [Bool.and_eq_true, decide_eq_true_eq, decide_eq_true_eq] at this; exact this.2
          have SE := Lib.hid (fun W h => hend ▸ i_end ae ce ex 0 W (by omega) h HNM.out (by omega))
          have hnn : ¬ endZ ex ((0 : Nat) : Int) < 0 := by rw [show ((0 : Nat) : Int) = 0 from rfl, hend]; omega
          obtain ⟨h0l, r, har, hr4, htok, hea⟩ := expr_first ex HEX.out
          have hops : opsZ ex 0 = opsFrom ex r 1 := opsZ_some ex 0 hnn h0l r har
          have HEA : Hid (Ops ex r 0 r 1) := Lib.hid ⟨by omega, rfl, hea⟩
          have SP := Lib.hid (fun W h => hops ▸ i_ops ae ce ex 0 W (by omega) h HNM.out (by omega))
          have SN := Lib.hid (fun W (y : Int) h hy => i_end ae ce ex y W (by omega) h HNM.out hy)
          have HA0 := Lib.hid (fun (W : World) => i_arity ex[0].kind ex[0].num ex[0].name W (HNM.out 0 h0l))
          obtain ⟨t, ht⟩ : ∃ t, ex[0] = t := ⟨_, rfl⟩
          have C0 := Lib.hid (fun W (h : ReadT W ae ex) => h 0 h0l)
          rw [ht] at HA0 C0 har
          rw [show arZ ⟨t.kind, t.num, t.name⟩ = (r : Int) from har] at HA0
          clear hend hnn har htok hea hops ht
          go_wp2_with fail
          refine (SE.out _ RE5.out).mono ?_
          rintro e w6 ⟨rfl, b6⟩
          have RE6 := Lib.hid (RE5.out.below b6)
          have HB6 := Lib.hid (HB5.out.trans (b6.mono hz5))
          have hz6 := HB6.out.size
          clear b6
          go_wp2_with fail
          refine (SP.out _ RE6.out).mono ?_
          rintro e w7 ⟨v7, rfl, O7, b7⟩
          have RE7 := Lib.hid (RE6.out.below b7)
          have HB7 := Lib.hid (HB6.out.trans (b7.mono hz6))
          have hz7 := HB7.out.size
          obtain ⟨a7, c7, rfl⟩ := owns_shape O7
          have RI := Lib.hid (readI_of O7)
          rw [opsFrom_length ex r 1]
          clear b7 O7
          go_wp2_with fail
          go_loopw [10, 12] (fun nx i wx => ∃ (m q : Nat) (y : Int), i = .int .i64 (q : Int) ∧ nx = .int .i64 y ∧ y ≤ 1048577 ∧ Ops ex r q m y ∧ Below w7.heap.size w7 wx) (fun _ i _ => r - (RowKit.intOf i).toNat)
          case atStart => exact ⟨r, 0, 1, rfl, rfl, by omega, HEA.out, Below.refl _ _⟩
          case round =>
            rename World => wy
            obtain ⟨m, q, y, rfl, rfl, hy, hop, hby⟩ := hrel
            have HOP := Lib.hid hop
            have hqm := hop.1
            have HBY := Lib.hid hby
            have hzy := hby.size
            clear hop
            by_cases hm0 : 0 < m
            · obtain ⟨m', rfl⟩ : ∃ m', m = m' + 1 := ⟨m - 1, by omega⟩
              obtain ⟨hi2, hat⟩ := HOP.out.at
              obtain ⟨g7, rfl, hg7, e0⟩ := RI.out q hi2
              rw [hat] at e0
              have d0 := (hby.cell (p := ⟨g7, q, none⟩) hg7).trans e0
              have k0' : (0 : Int) ≤ (q : Int) := by omega
              have k1' : (q : Int) < (r : Int) := by omega
              have NX := Lib.hid HOP.out.next
              obtain ⟨y', hy'⟩ : ∃ y', endZ ex y = y' := ⟨_, rfl⟩
              have hy2 : y' ≤ 1048577 := by have := endZ_bd ex y; omega
              have SY := Lib.hid (fun W h => hy' ▸ SN.out W y h (by omega))
              rw [hy'] at NX
              have RY := Lib.hid (RE7.out.below hby)
              have hqr : r - q = (r - (q + 1)) + 1 := by omega
              have HQR := Lib.hid hqr
              clear hat hi2 e0 hy' hby hqm hqr
              go_wp2_with fail
              refine (SY.out _ RY.out).mono ?_
              rintro e w8 ⟨rfl, b8⟩
              have HB8 := Lib.hid (HBY.out.trans (b8.mono hzy))
              clear b8
              go_wp2
              go_roundw
              case rel => exact ⟨m', q + 1, y', by go_num, rfl, hy2, NX.out, HB8.out⟩
              case measure => simp [RowKit.intOf]; have := HQR.out; omega
            · have hm00 : m = 0 := by omega
              subst hm00
              have hyl : y = (ex.length : Int) := HOP.out.2.2
              subst hyl
              have hqr : q = r := by omega
              subst hqr
              obtain ⟨ge, rfl, hge, e0, e1, e2⟩ := C0.out _ (RE7.out.below hby)
              simp only [Nat.zero_mul, Nat.zero_add] at e0 e1 e2
              have l0' : (0 : Int) < (ex.length : Int) := by omega
              have BY := Lib.hid hby
              clear hqm hm0 hby
              go_wp2_with fail
              refine (HA0.out _).mono ?_
              rintro e w8 ⟨rfl, b8⟩
              have HB8 := Lib.hid (BY.out.trans (b8.mono hzy))
              clear b8
              have HBF : Hid (Below w1.heap.size w1 w8) := Lib.hid (HBL.out.trans ((HB7.out.trans (HB8.out.mono hz7)).mono hsz))
              go_wp2
              go_roundw
              case rel => exact ⟨j + 1, by omega, by go_num, HBF.out⟩
              case measure => simp [RowKit.intOf]; omega
    · go_wp2
      go_ret
      exact ⟨rfl, HB1.out.trans (HBL.out.mono hs1)⟩

end Go.Proofs.YtbdplcbmfcfigaaDoor.fnExpressions
