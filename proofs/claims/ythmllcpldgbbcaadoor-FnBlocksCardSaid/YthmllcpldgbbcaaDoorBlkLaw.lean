/- The law on blocks, walked. -/
import Derived.Test.YthmllcpldgbbcaaDoorDrawProgram
import Derived.Test.YthmllcpldgbbcaaDoorBig
import Derived.Test.YthmllcpldgbbcaaDoorPokBoth
import Derived.Test.YthmllcpldgbbcaaDoorDrawnOk
import Derived.Test.YthmllcpldgbbcaaDoorBlkPlain
import Derived.Deep.RegionHeld3
namespace Go.Proofs.YthmllcpldgbbcaaDoor.fnBlocks
open Go.RowKit Go.Lib

set_option maxRecDepth 100000 in
set_option maxHeartbeats 16000000 in
theorem walk (a0 : Option Addr) (len0 cap0 : Nat) (z0 : List Int) (w : World) (w0 : IsRow .u8 w a0 len0 cap0 z0) (hL : laidMet Tryd.prog Rows.fnBlocksRow.laid w) :
    Calls Tryd.prog 3 #[.slice a0 len0 cap0] w fun e w' => e = .returned (.bool true) ∧ Below w.heap.size w w' := by
  have HC := Lib.hid w0
  have HSH := Lib.hid (fun (W : World) (hb : Below w.heap.size w W) => (shapes_head hL).on hb)
  have hlen : len0 ≤ 9223372036854775807 := by
    rcases w0 with ⟨_, rfl, _, _⟩ | ⟨x, _, h1, h2, _⟩
    · omega
    · unfold maxLen at h2; omega
  clear w0 hL
  by_cases hb : 1048576 < len0
  · go_enter Tryd.func3, Tryd.ntmps3
    go_wp2_with fail
    refine (big_yes a0 len0 cap0 _ hb hlen).mono ?_
    rintro e w' ⟨rfl, rfl⟩
    go_wp2
    go_ret
    exact ⟨rfl, Below.refl _ _⟩
  go_enter Tryd.func3, Tryd.ntmps3
  go_wp2_with fail
  refine (big_no a0 len0 cap0 _ (by omega)).mono ?_
  rintro e w' ⟨rfl, rfl⟩
  go_wp2_with fail
  refine (d_program a0 len0 cap0 z0 _ HC.out (by omega)).mono ?_
  rintro e w1 ⟨v, X, rfl, O1, hne, A1, ok1, x0, x1, b1⟩
  obtain ⟨g, cp, rfl⟩ := own_formT O1 x0
  have hcap := own_cap4 O1
  have R1 := Lib.hid (readL_of O1 A1)
  have HB1 := Lib.hid b1
  have hs1 := b1.size
  have HSM : Hid (SzAl X) := Lib.hid (fun x hx => line_small _ (ok1 x hx).line)
  have IPO := Lib.hid (i_progOkB (some ⟨g, 0, none⟩) cp X w1 (by omega) hcap R1.out HSM.out (HSH.out w1 b1))
  have hpl := plL_length X
  have SPO := Lib.hid (fun (W : World) (hb : Below w1.heap.size w1 W) => s_progOkB (some ⟨g, 0, none⟩) cp X W (by omega) (R1.out.below hb) HSM.out)
  have HOK := Lib.hid (pokB_iff (plL X))
  have IEN := Lib.hid (fun (W : World) (hb : Below w1.heap.size w1 W) (k : Int) => i_endOf (some ⟨g, 0, none⟩) cp X k W (by omega) (R1.out.below hb))
  have IEL := Lib.hid (fun (W : World) (hb : Below w1.heap.size w1 W) (k : Int) => i_elseOf (some ⟨g, 0, none⟩) cp X k W (by omega) (R1.out.below hb))
  have SEN := Lib.hid (fun (W : World) (hb : Below w1.heap.size w1 W) (k : Int) => s_endOf (some ⟨g, 0, none⟩) cp X k W (by omega) (R1.out.below hb))
  have IFL := Lib.hid (fun (W : World) (hb : Below w1.heap.size w1 W) => i_funLines (some ⟨g, 0, none⟩) cp X W (by omega) (R1.out.below hb))
  have IFF := Lib.hid (fun (W : World) (hb : Below w1.heap.size w1 W) n => i_findFn (some ⟨g, 0, none⟩) cp X n W (by omega) (R1.out.below hb))
  have ILO := Lib.hid (fun (W : World) (hb : Below w1.heap.size w1 W) (k : Int) => i_localsOf (some ⟨g, 0, none⟩) cp X k W (by omega) hcap (R1.out.below hb) (fun x hx => (HSM.out x hx).2.1))
  clear O1 A1 ok1 b1 hne hcap
  obtain ⟨b, hb2⟩ : ∃ b, pokB (plL X) = b := ⟨_, rfl⟩
  rw [hb2] at IPO SPO HOK
  clear hb2
  cases b
  · go_wp2_with fail
    refine IPO.out.mono ?_
    rintro e w2 ⟨rfl, b2⟩
    have HB2 : Hid (Below w.heap.size w w2) := Lib.hid (HB1.out.trans (b2.mono hs1))
    have hs2 := HB2.out.size
    have SP2 := Lib.hid (SPO.out w2 b2)
    clear b2
    go_wp2_with fail
    refine SP2.out.mono ?_
    rintro e w3 ⟨rfl, b3⟩
    have HB3 : Hid (Below w.heap.size w w3) := Lib.hid (HB2.out.trans (b3.mono hs2))
    clear b3
    go_wp2
    go_ret
    exact ⟨rfl, HB3.out⟩
  have HI : Hid (OkI (plL X)) := Lib.hid (HOK.out.1 rfl)
  clear SPO HOK
  go_wp2_with fail
  refine IPO.out.mono ?_
  rintro e w2 ⟨rfl, b2⟩
  have HC2 := Lib.hid b2
  clear b2 IPO
  go_wp2_with fail
  go_loopw [4, 5, 6, 7, 8] (fun i _ _ _ _ wr => ∃ q : Nat, q ≤ X.length ∧ i = .int .i64 (q : Int) ∧ Below w1.heap.size w1 wr) (fun i _ _ _ _ _ => X.length - (RowKit.intOf i).toNat)
  case atStart => exact ⟨0, Nat.zero_le _, rfl, HC2.out⟩
  case round =>
    rename World => wr
    obtain ⟨q, hq, rfl, hbel⟩ := hrel
    have HB := Lib.hid hbel
    have hB := hbel.size
    by_cases hlt : q < X.length
    · have HE1 := Lib.hid (IEN.out wr hbel q)
      have HGT := beZ_gt (plL X) (q : Int)
      have HEG := elseZ_gt (plL X) (q : Int)
      have HLT := beZ_lt (plL X) (q : Int)
      have HAP := Lib.hid (fun (b : Nat) h1 h2 h3 h4 => beZ_apart (plL X) q b h1 h2 h3 h4)
      have HE2 := Lib.hid (fun (W : World) (hb : Below w1.heap.size w1 W) => IEL.out W hb q)
      obtain ⟨x, hx⟩ : ∃ x, beZ (plL X) (q : Int) = x := ⟨_, rfl⟩
      obtain ⟨e, he⟩ : ∃ e, elseZ (plL X) (q : Int) = e := ⟨_, rfl⟩
      rw [hx] at HE1 HGT HEG HLT HAP
      rw [he] at HEG HE2
      have k0 : (0 : Int) ≤ (q : Int) := by omega
      have k1 : (q : Int) < (X.length : Int) := by omega
      clear hx he hbel
      have dx1 : 0 ≤ x → ¬ x ≤ (q : Int) := fun h => by have := HGT h; omega
      have de1 : 0 ≤ e → ¬ e ≤ (q : Int) := fun h => by have := HEG h; omega
      have de2 : 0 ≤ e → ¬ x ≤ e := fun h => by have := HEG h; omega
      go_wp2_with fail
      refine HE1.out.mono ?_
      rintro _ w3 ⟨rfl, b3⟩
      have HB3 : Hid (Below w1.heap.size w1 w3) := Lib.hid (HB.out.trans (b3.mono hB))
      have z3 := HB3.out.size
      have HE3 := Lib.hid (HE2.out w3 HB3.out)
      clear b3
      go_wp2_with fail
      refine HE3.out.mono ?_
      rintro _ w4 ⟨rfl, b4⟩
      have HB4 : Hid (Below w1.heap.size w1 w4) := Lib.hid (HB3.out.trans (b4.mono z3))
      clear b4
      have hcase : (x < 0 ∧ e < 0) ∨ (0 ≤ x ∧ e < 0) ∨ (0 ≤ x ∧ 0 ≤ e) := by
        rcases Int.lt_or_le x 0 with h | h
        · rcases Int.lt_or_le e 0 with h2 | h2
          · exact .inl ⟨h, h2⟩
          · have := HEG h2; omega
        · rcases Int.lt_or_le e 0 with h2 | h2
          · exact .inr (.inl ⟨h, h2⟩)
          · exact .inr (.inr ⟨h, h2⟩)
      rcases hcase with ⟨hx0, he0⟩ | ⟨hx0, he0⟩ | ⟨hx0, he0⟩
      · have hdx : decide (0 ≤ x) = false := decide_eq_false (by omega)
        have hde : decide (0 ≤ e) = false := decide_eq_false (by omega)
        go_wp2_with fail
        go_loopw [7, 8] (fun i _ wy => ∃ m : Nat, q + 1 ≤ m ∧ i = .int .i64 (m : Int) ∧ m ≤ X.length + 1 ∧ Below w1.heap.size w1 wy) (fun i _ _ => X.length + 1 - (RowKit.intOf i).toNat)
        case atStart => exact ⟨q + 1, Nat.le_refl _, by go_num, by omega, HB4.out⟩
        case round =>
          rename World => wy
          obtain ⟨m, hqm, rfl, hmX, hby⟩ := hrel
          have HBY := Lib.hid hby
          have hBY := hby.size
          go_wp2
          go_roundw
          case rel => exact ⟨q + 1, by omega, by go_num, HBY.out⟩
          case measure => simp [RowKit.intOf]; omega
      · have hdx : decide (0 ≤ x) = true := decide_eq_true hx0
        have hde : decide (0 ≤ e) = false := decide_eq_false (by omega)
        have hd2 : decide (x ≤ (q : Int)) = false := decide_eq_false (by have := dx1 hx0; omega)
        go_wp2_with fail
        go_loopw [7, 8] (fun i _ wy => ∃ m : Nat, q + 1 ≤ m ∧ i = .int .i64 (m : Int) ∧ m ≤ X.length + 1 ∧ Below w1.heap.size w1 wy) (fun i _ _ => X.length + 1 - (RowKit.intOf i).toNat)
        case atStart => exact ⟨q + 1, Nat.le_refl _, by go_num, by omega, HB4.out⟩
        case round =>
          rename World => wy
          obtain ⟨m, hqm, rfl, hmX, hby⟩ := hrel
          have HBY := Lib.hid hby
          have hBY := hby.size
          by_cases hlm : m < X.length
          · have m0 : (m : Int) < (X.length : Int) := by omega
            have hdm : decide ((m : Int) < (X.length : Int)) = true := decide_eq_true m0
            have HS := Lib.hid (SEN.out wy hby m)
            have HAM : 0 ≤ beZ (plL X) (m : Int) → (m : Int) < x → ¬ x ≤ beZ (plL X) (m : Int) := fun h1 h2 => by have := HAP.out m hx0 (by omega) h2 h1; omega
            obtain ⟨y, hy⟩ : ∃ y, beZ (plL X) (m : Int) = y := ⟨_, rfl⟩
            rw [hy] at HS HAM
            clear hy hby
            go_wp2_with fail
            refine HS.out.mono ?_
            rintro _ w5 ⟨rfl, b5⟩
            have HB5 : Hid (Below w1.heap.size w1 w5) := Lib.hid (HBY.out.trans (b5.mono hBY))
            clear b5
            by_cases hy0 : 0 ≤ y
            · have hdy : decide (0 ≤ y) = true := decide_eq_true hy0
              by_cases hmx : (m : Int) < x
              · have hdx : decide ((m : Int) < x) = true := decide_eq_true hmx
                have hdz : decide (x ≤ y) = false := decide_eq_false (by have := HAM hy0 hmx; omega)
                go_wp2
                go_roundw
                case rel => exact ⟨m + 1, by omega, by go_num, by omega, HB5.out⟩
                case measure => simp [RowKit.intOf]; omega
              · have hdx : decide ((m : Int) < x) = false := decide_eq_false hmx
                go_wp2
                go_roundw
                case rel => exact ⟨m + 1, by omega, by go_num, by omega, HB5.out⟩
                case measure => simp [RowKit.intOf]; omega
            · have hdy : decide (0 ≤ y) = false := decide_eq_false hy0
              go_wp2
              go_roundw
              case rel => exact ⟨m + 1, by omega, by go_num, by omega, HB5.out⟩
              case measure => simp [RowKit.intOf]; omega
          · have hdm : decide ((m : Int) < (X.length : Int)) = false := decide_eq_false (by omega)
            go_wp2
            go_roundw
            case rel => exact ⟨q + 1, by omega, by go_num, HBY.out⟩
            case measure => simp [RowKit.intOf]; omega
      · have hdx : decide (0 ≤ x) = true := decide_eq_true hx0
        have hde : decide (0 ≤ e) = true := decide_eq_true he0
        have hd2 : decide (x ≤ (q : Int)) = false := decide_eq_false (by have := dx1 hx0; omega)
        have hd3 : decide (e ≤ (q : Int)) = false := decide_eq_false (by have := de1 he0; omega)
        have hd4 : decide (x ≤ e) = false := decide_eq_false (by have := de2 he0; omega)
        go_wp2_with fail
        go_loopw [7, 8] (fun i _ wy => ∃ m : Nat, q + 1 ≤ m ∧ i = .int .i64 (m : Int) ∧ m ≤ X.length + 1 ∧ Below w1.heap.size w1 wy) (fun i _ _ => X.length + 1 - (RowKit.intOf i).toNat)
        case atStart => exact ⟨q + 1, Nat.le_refl _, by go_num, by omega, HB4.out⟩
        case round =>
          rename World => wy
          obtain ⟨m, hqm, rfl, hmX, hby⟩ := hrel
          have HBY := Lib.hid hby
          have hBY := hby.size
          by_cases hlm : m < X.length
          · have m0 : (m : Int) < (X.length : Int) := by omega
            have hdm : decide ((m : Int) < (X.length : Int)) = true := decide_eq_true m0
            have HS := Lib.hid (SEN.out wy hby m)
            have HAM : 0 ≤ beZ (plL X) (m : Int) → (m : Int) < x → ¬ x ≤ beZ (plL X) (m : Int) := fun h1 h2 => by have := HAP.out m hx0 (by omega) h2 h1; omega
            obtain ⟨y, hy⟩ : ∃ y, beZ (plL X) (m : Int) = y := ⟨_, rfl⟩
            rw [hy] at HS HAM
            clear hy hby
            go_wp2_with fail
            refine HS.out.mono ?_
            rintro _ w5 ⟨rfl, b5⟩
            have HB5 : Hid (Below w1.heap.size w1 w5) := Lib.hid (HBY.out.trans (b5.mono hBY))
            clear b5
            by_cases hy0 : 0 ≤ y
            · have hdy : decide (0 ≤ y) = true := decide_eq_true hy0
              by_cases hmx : (m : Int) < x
              · have hdx : decide ((m : Int) < x) = true := decide_eq_true hmx
                have hdz : decide (x ≤ y) = false := decide_eq_false (by have := HAM hy0 hmx; omega)
                go_wp2
                go_roundw
                case rel => exact ⟨m + 1, by omega, by go_num, by omega, HB5.out⟩
                case measure => simp [RowKit.intOf]; omega
              · have hdx : decide ((m : Int) < x) = false := decide_eq_false hmx
                go_wp2
                go_roundw
                case rel => exact ⟨m + 1, by omega, by go_num, by omega, HB5.out⟩
                case measure => simp [RowKit.intOf]; omega
            · have hdy : decide (0 ≤ y) = false := decide_eq_false hy0
              go_wp2
              go_roundw
              case rel => exact ⟨m + 1, by omega, by go_num, by omega, HB5.out⟩
              case measure => simp [RowKit.intOf]; omega
          · have hdm : decide ((m : Int) < (X.length : Int)) = false := decide_eq_false (by omega)
            go_wp2
            go_roundw
            case rel => exact ⟨q + 1, by omega, by go_num, HBY.out⟩
            case measure => simp [RowKit.intOf]; omega
    · have hqq : q = X.length := by omega
      have HFL := Lib.hid (IFL.out wr hbel)
      clear hbel hlt
      subst hqq
      go_wp2_with fail
      refine HFL.out.mono ?_
      rintro _ w3 ⟨v, rfl, hown, b3⟩
      obtain ⟨av, cv, rfl⟩ := owns3_shape hown
      have HRI := Lib.hid (readI_of hown)
      have HB3 : Hid (Below w1.heap.size w1 w3) := Lib.hid (HB.out.trans (b3.mono hB))
      have z3 := HB3.out.size
      have hfl := funI_length (plL X)
      obtain ⟨F, hF⟩ : ∃ F, funI (plL X) = F := ⟨_, rfl⟩
      have HFG := Lib.hid (fun i h => funI_get (plL X) i h)
      rw [hF] at HRI hfl HFG
      obtain ⟨n, hn⟩ : ∃ n, F.length = n := ⟨_, rfl⟩
      have HNN := Lib.hid hn
      rw [hF, hn]
      rw [hn] at hfl
      have HNF := Lib.hid hfl
      have hn0 : 0 < n := by have := funs_pos (plL X) HI.out.2.1.2.1; omega
      have hn6 : n ≤ 6 := by have := HI.out.2.1.1; omega
      clear b3 hown hF hn hfl HFL
      go_wp2_with fail
      go_loopw [10] (fun i wx => ∃ m : Nat, m ≤ n ∧ i = .int .i64 (m : Int) ∧ Below w3.heap.size w3 wx) (fun i _ => n - (RowKit.intOf i).toNat)
      case atStart => exact ⟨0, Nat.zero_le _, rfl, Below.refl _ _⟩
      case round =>
        rename World => wx
        obtain ⟨m, hm, rfl, hbx⟩ := hrel
        have HBX := Lib.hid hbx
        have hBX := hbx.size
        have HWX : Hid (Below w1.heap.size w1 wx) := Lib.hid (HB3.out.trans (hbx.mono z3))
        by_cases hlm : m < n
        · have hmF : m < F.length := by rw [HNN.out]; exact hlm
          obtain ⟨gv, ha, hgv, c0⟩ := (HRI.out.below hbx) m hmF
          subst ha
          obtain ⟨hm', hget⟩ := HFG.out m hmF
          rw [hget] at c0
          have hklt := funs_lt (plL X) m hm'
          have hna := (HI.out.2.2.2.2.2 _ (List.getElem_mem hm')).1
          have hfz := (uniq_all (plL X)).2 HI.out.2.1.2.2.2 m hm' hm'
          have HFX := Lib.hid (follow_next (plL X) (funs (plL X)) 0 HI.out.2.2.1)
          have HEN := Lib.hid (follow_ends (plL X) (funs (plL X)) 0 HI.out.2.2.1)
          have HPV : Hid (∀ j, m = j + 1 → ∃ (k' E : Nat), wx.cell? ⟨gv, j, none⟩ = some (.int .i64 (k' : Int)) ∧ beZ (plL X) (k' : Int) = (E : Int) ∧ (((funs (plL X))[m] : Nat) : Int) = (E : Int) + 1 ∧ E < X.length) := Lib.hid (fun j hj => by
            subst hj
            have hjF : j < F.length := by omega
            obtain ⟨gv2, ha2, _, cj⟩ := (HRI.out.below hbx) j hjF
            injection ha2 with ha2
            injection ha2 with ha2
            subst ha2
            obtain ⟨hj', hgetj⟩ := HFG.out j hjF
            rw [hgetj] at cj
            have h1 := HFX.out j hm'
            have h2 := HEN.out _ (List.getElem_mem hj')
            have h3 := (beZ_lt (plL X) (((funs (plL X))[j] : Nat) : Int)).2
            exact ⟨(funs (plL X))[j], (beZ (plL X) (((funs (plL X))[j] : Nat) : Int)).toNat, cj, by omega, by omega, by omega⟩)
          obtain ⟨k, hk⟩ : ∃ k, (funs (plL X))[m] = k := ⟨_, rfl⟩
          rw [hk] at c0 hklt hna hfz HPV
          have hkX : k < X.length := by omega
          rw [nmZ_at X k hkX] at hfz
          obtain ⟨g', hga, hg', ⟨_, c1, _, _⟩, _⟩ := (R1.out.below HWX.out) k hkX
          injection hga with hga
          injection hga with hga
          subst hga
          have hgx : g < wx.heap.size := hg'
          have HFQ : Hid (∀ W, Below wx.heap.size wx W → Calls Tryd.prog 13 #[.slice (some ⟨g, 0, none⟩) X.length cp, .string X[k].name] W fun e w' => e = .returned (.int .i64 (k : Int)) ∧ Below W.heap.size W w') := Lib.hid (fun W hb => by
            have := IFF.out W (HWX.out.trans (hb.mono HWX.out.size)) X[k].name
            rw [hfz] at this
            exact this)
          have HLQ := Lib.hid (fun (W : World) (hb : Below wx.heap.size wx W) => ILO.out W (HWX.out.trans (hb.mono HWX.out.size)) k)
          obtain ⟨L, hL⟩ : ∃ L, locZ (plL X) (k : Int) = L := ⟨_, rfl⟩
          rw [hL] at HLQ hna
          generalize X[k].name = nm at *
          have hd8 : decide (8 < (L.length : Int)) = false := decide_eq_false (by omega)
          have hd8n : ¬ 8 < L.length := by omega
          have k2 : (0 : Int) ≤ (k : Int) := by omega
          have k3 : (k : Int) < (X.length : Int) := by omega
          clear hk hfz hget hL hklt HFX HEN hmF hm'
          by_cases hm0 : m = 0
          · have hz1 : decide ((0 : Int) < (m : Int)) = false := decide_eq_false (by omega)
            have hz2 : ¬ 0 < m := by omega
            have hz3 : ¬ (0 : Int) < (m : Int) := by omega
            have m0 : (0 : Int) ≤ (m : Int) := by omega
            have m1 : (m : Int) < (n : Int) := by omega
            clear HPV hm0
            have KEEP : Hid (∀ W, Below wx.heap.size wx W → (W.cell? ⟨gv, m, none⟩ = some (.int .i64 (k : Int)) ∧ W.cell? ⟨g, k * 4 + 1, none⟩ = some (.string nm))) := Lib.hid (fun W hb => ⟨(hb.cell (p := ⟨gv, _, none⟩) hgv).trans c0, (hb.cell (p := ⟨g, _, none⟩) hgx).trans c1⟩)
            clear hbx
            go_wp2_with fail
            refine wp_region_held_drew (S := fun w' => w'.cell? ⟨gv, m, none⟩ = some (.int .i64 (k : Int)) ∧ w'.cell? ⟨g, k * 4 + 1, none⟩ = some (.string nm)) (by kernel_rfl) (KEEP.out _ (Below.refl wx.heap.size wx).drew) (fun hHeld => ?_)
            refine wpAnyH_take (i := 0) (oi := _) (v := ?_) rfl (by kernel_rfl) (by kernel_rfl) (by kernel_rfl) (fun _ _ _ h => h) ?_ (by assumption) ?_
            rotate_left 1
            · first | (refine Or.inl ⟨by rfl, ?_⟩; intro w hSw; (try dsimp only at hSw); (try simp only [List.getElem_toArray, List.getElem_cons_zero, List.getElem_cons_succ]); go_simp; done) | (refine Or.inl ⟨by rfl, ?_⟩; intro w hSw; (try dsimp only at hSw); (try simp only [List.getElem_toArray, List.getElem_cons_zero, List.getElem_cons_succ]); go_simp; with_reducible rfl)
            try simp only [Act.put, List.setIfInBounds_toArray, List.set_cons_zero, List.set_cons_succ, List.getElem_toArray, List.getElem_cons_zero, List.getElem_cons_succ]
            refine wpAnyH_take (i := 1) (oi := _) (v := ?_) rfl (by kernel_rfl) (by kernel_rfl) (by kernel_rfl) (fun _ _ _ h => h) ?_ (by assumption) ?_
            rotate_left 1
            · first | (refine Or.inl ⟨by rfl, ?_⟩; intro w hSw; (try dsimp only at hSw); (try simp only [List.getElem_toArray, List.getElem_cons_zero, List.getElem_cons_succ]); go_simp; done) | (refine Or.inl ⟨by rfl, ?_⟩; intro w hSw; (try dsimp only at hSw); (try simp only [List.getElem_toArray, List.getElem_cons_zero, List.getElem_cons_succ]); go_simp; with_reducible rfl)
            try simp only [Act.put, List.setIfInBounds_toArray, List.set_cons_zero, List.set_cons_succ, List.getElem_toArray, List.getElem_cons_zero, List.getElem_cons_succ]
            refine wpAnyH_take (i := 2) (oi := _) (v := ?_) rfl (by kernel_rfl) (by kernel_rfl) (by kernel_rfl) (fun _ _ _ h => h) ?_ (by assumption) ?_
            rotate_left 1
            · first | (refine Or.inl ⟨by rfl, ?_⟩; intro w hSw; (try dsimp only at hSw); (try simp only [List.getElem_toArray, List.getElem_cons_zero, List.getElem_cons_succ]); go_simp; done) | (refine Or.inl ⟨by rfl, ?_⟩; intro w hSw; (try dsimp only at hSw); (try simp only [List.getElem_toArray, List.getElem_cons_zero, List.getElem_cons_succ]); go_simp; with_reducible rfl)
            try simp only [Act.put, List.setIfInBounds_toArray, List.set_cons_zero, List.set_cons_succ, List.getElem_toArray, List.getElem_cons_zero, List.getElem_cons_succ]
            refine wpAnyH_take (i := 3) (oi := _) (v := ?_) rfl (by kernel_rfl) (by kernel_rfl) (by kernel_rfl) (fun _ _ _ h => h) ?_ (by assumption) ?_
            rotate_left 1
            · first | (refine Or.inl ⟨by rfl, ?_⟩; intro w hSw; (try dsimp only at hSw); (try simp only [List.getElem_toArray, List.getElem_cons_zero, List.getElem_cons_succ]); go_simp; done) | (refine Or.inl ⟨by rfl, ?_⟩; intro w hSw; (try dsimp only at hSw); (try simp only [List.getElem_toArray, List.getElem_cons_zero, List.getElem_cons_succ]); go_simp; with_reducible rfl)
            try simp only [Act.put, List.setIfInBounds_toArray, List.set_cons_zero, List.set_cons_succ, List.getElem_toArray, List.getElem_cons_zero, List.getElem_cons_succ]
            refine wpAnyH_take (i := 4) (oi := _) (v := ?_) rfl (by kernel_rfl) (by kernel_rfl) (by kernel_rfl) (fun _ _ _ h => h) ?_ (by assumption) ?_
            rotate_left 1
            · first | (refine Or.inl ⟨by rfl, ?_⟩; intro w hSw; (try dsimp only at hSw); (try simp only [List.getElem_toArray, List.getElem_cons_zero, List.getElem_cons_succ]); go_simp; done) | (refine Or.inl ⟨by rfl, ?_⟩; intro w hSw; (try dsimp only at hSw); (try simp only [List.getElem_toArray, List.getElem_cons_zero, List.getElem_cons_succ]); go_simp; with_reducible rfl)
            try simp only [Act.put, List.setIfInBounds_toArray, List.set_cons_zero, List.set_cons_succ, List.getElem_toArray, List.getElem_cons_zero, List.getElem_cons_succ]
            refine wpAnyH_take (i := 5) (oi := _) (v := ?_) rfl (by kernel_rfl) (by kernel_rfl) (by kernel_rfl) (fun _ _ _ h => h) ?_ (by assumption) ?_
            rotate_left 1
            · first | (refine Or.inl ⟨by rfl, ?_⟩; intro w hSw; (try dsimp only at hSw); (try simp only [List.getElem_toArray, List.getElem_cons_zero, List.getElem_cons_succ]); go_simp; done) | (refine Or.inl ⟨by rfl, ?_⟩; intro w hSw; (try dsimp only at hSw); (try simp only [List.getElem_toArray, List.getElem_cons_zero, List.getElem_cons_succ]); go_simp; with_reducible rfl)
            try simp only [Act.put, List.setIfInBounds_toArray, List.set_cons_zero, List.set_cons_succ, List.getElem_toArray, List.getElem_cons_zero, List.getElem_cons_succ]
            refine wpAnyH_take (i := 6) (oi := _) (v := ?_) rfl (by kernel_rfl) (by kernel_rfl) (by kernel_rfl) (fun _ _ _ h => h) ?_ (by assumption) ?_
            rotate_left 1
            · first | (refine Or.inl ⟨by rfl, ?_⟩; intro w hSw; (try dsimp only at hSw); (try simp only [List.getElem_toArray, List.getElem_cons_zero, List.getElem_cons_succ]); go_simp; done) | (refine Or.inl ⟨by rfl, ?_⟩; intro w hSw; (try dsimp only at hSw); (try simp only [List.getElem_toArray, List.getElem_cons_zero, List.getElem_cons_succ]); go_simp; with_reducible rfl)
            try simp only [Act.put, List.setIfInBounds_toArray, List.set_cons_zero, List.set_cons_succ, List.getElem_toArray, List.getElem_cons_zero, List.getElem_cons_succ]
            refine wpAnyH_take (i := 7) (oi := _) (v := ?_) rfl (by kernel_rfl) (by kernel_rfl) (by kernel_rfl) (fun _ _ _ h => h) ?_ (by assumption) ?_
            rotate_left 1
            · first | (refine Or.inl ⟨by rfl, ?_⟩; intro w hSw; (try dsimp only at hSw); (try simp only [List.getElem_toArray, List.getElem_cons_zero, List.getElem_cons_succ]); go_simp; done) | (refine Or.inl ⟨by rfl, ?_⟩; intro w hSw; (try dsimp only at hSw); (try simp only [List.getElem_toArray, List.getElem_cons_zero, List.getElem_cons_succ]); go_simp; with_reducible rfl)
            try simp only [Act.put, List.setIfInBounds_toArray, List.set_cons_zero, List.set_cons_succ, List.getElem_toArray, List.getElem_cons_zero, List.getElem_cons_succ]
            refine wpAnyH_take (i := 8) (oi := _) (v := ?_) rfl (by kernel_rfl) (by kernel_rfl) (by kernel_rfl) (fun _ _ _ h => h) ?_ (by assumption) ?_
            rotate_left 1
            · first | (refine Or.inl ⟨by rfl, ?_⟩; intro w hSw; (try dsimp only at hSw); (try simp only [List.getElem_toArray, List.getElem_cons_zero, List.getElem_cons_succ]); go_simp; done) | (refine Or.inl ⟨by rfl, ?_⟩; intro w hSw; (try dsimp only at hSw); (try simp only [List.getElem_toArray, List.getElem_cons_zero, List.getElem_cons_succ]); go_simp; with_reducible rfl)
            try simp only [Act.put, List.setIfInBounds_toArray, List.set_cons_zero, List.set_cons_succ, List.getElem_toArray, List.getElem_cons_zero, List.getElem_cons_succ]
            refine wpAnyH_take (i := 10) (oi := _) (v := ?_) rfl (by kernel_rfl) (by kernel_rfl) (by kernel_rfl) (fun _ _ _ h => h) ?_ (by assumption) ?_
            rotate_left 1
            · first | (refine Or.inl ⟨by rfl, ?_⟩; intro w hSw; (try dsimp only at hSw); (try simp only [List.getElem_toArray, List.getElem_cons_zero, List.getElem_cons_succ]); go_simp; done) | (refine Or.inl ⟨by rfl, ?_⟩; intro w hSw; (try dsimp only at hSw); (try simp only [List.getElem_toArray, List.getElem_cons_zero, List.getElem_cons_succ]); go_simp; with_reducible rfl)
            try simp only [Act.put, List.setIfInBounds_toArray, List.set_cons_zero, List.set_cons_succ, List.getElem_toArray, List.getElem_cons_zero, List.getElem_cons_succ]
            refine wpAnyH_take (i := 11) (oi := _) (v := ?_) rfl (by kernel_rfl) (by kernel_rfl) (by kernel_rfl) (fun _ _ _ h => h) ?_ (by assumption) ?_
            rotate_left 1
            · first | (refine Or.inl ⟨by rfl, ?_⟩; intro w hSw; (try dsimp only at hSw); (try simp only [List.getElem_toArray, List.getElem_cons_zero, List.getElem_cons_succ]); go_simp; done) | (refine Or.inl ⟨by rfl, ?_⟩; intro w hSw; (try dsimp only at hSw); (try simp only [List.getElem_toArray, List.getElem_cons_zero, List.getElem_cons_succ]); go_simp; with_reducible rfl)
            try simp only [Act.put, List.setIfInBounds_toArray, List.set_cons_zero, List.set_cons_succ, List.getElem_toArray, List.getElem_cons_zero, List.getElem_cons_succ]
            refine wpAnyH_take (i := 12) (oi := _) (v := ?_) rfl (by kernel_rfl) (by kernel_rfl) (by kernel_rfl) (fun _ _ _ h => h) ?_ (by assumption) ?_
            rotate_left 1
            · first | (refine Or.inl ⟨by rfl, ?_⟩; intro w hSw; (try dsimp only at hSw); (try simp only [List.getElem_toArray, List.getElem_cons_zero, List.getElem_cons_succ]); go_simp; done) | (refine Or.inl ⟨by rfl, ?_⟩; intro w hSw; (try dsimp only at hSw); (try simp only [List.getElem_toArray, List.getElem_cons_zero, List.getElem_cons_succ]); go_simp; with_reducible rfl)
            try simp only [Act.put, List.setIfInBounds_toArray, List.set_cons_zero, List.set_cons_succ, List.getElem_toArray, List.getElem_cons_zero, List.getElem_cons_succ]
            refine wpAnyH_take (i := 13) (oi := _) (v := ?_) rfl (by kernel_rfl) (by kernel_rfl) (by kernel_rfl) (fun _ _ _ h => h) ?_ (by assumption) ?_
            rotate_left 1
            · first | (refine Or.inl ⟨by rfl, ?_⟩; intro w hSw; (try dsimp only at hSw); (try simp only [List.getElem_toArray, List.getElem_cons_zero, List.getElem_cons_succ]); go_simp; done) | (refine Or.inl ⟨by rfl, ?_⟩; intro w hSw; (try dsimp only at hSw); (try simp only [List.getElem_toArray, List.getElem_cons_zero, List.getElem_cons_succ]); go_simp; with_reducible rfl)
            try simp only [Act.put, List.setIfInBounds_toArray, List.set_cons_zero, List.set_cons_succ, List.getElem_toArray, List.getElem_cons_zero, List.getElem_cons_succ]
            refine wpAnyH_ready (rs := [9]) (by kernel_rfl) (by simp) ?_
            refine AllReadyH.cons (o := _) rfl (fun K hK => ?_) AllReadyH.nil
            try simp only [List.getElem_toArray, List.getElem_cons_zero, List.getElem_cons_succ]
            go_simp
            refine (HFQ.out _ (Below.refl wx.heap.size wx).drew).mono ?_
            rintro e w4 ⟨rfl, b4⟩
            go_wp2_with fail
            refine hK.out _ _ (KEEP.out _ (undrew b4)) (fun hHeld => ?_)
            clear hK K
            try simp only [Act.put, List.setIfInBounds_toArray, List.set_cons_zero, List.set_cons_succ, List.getElem_toArray, List.getElem_cons_zero, List.getElem_cons_succ]
            refine wpAnyH_take (i := 14) (oi := _) (v := ?_) rfl (by kernel_rfl) (by kernel_rfl) (by kernel_rfl) (fun _ _ _ h => h) ?_ (by assumption) ?_
            rotate_left 1
            · first | (refine Or.inl ⟨by rfl, ?_⟩; intro w hSw; (try dsimp only at hSw); (try simp only [List.getElem_toArray, List.getElem_cons_zero, List.getElem_cons_succ]); go_simp; done) | (refine Or.inl ⟨by rfl, ?_⟩; intro w hSw; (try dsimp only at hSw); (try simp only [List.getElem_toArray, List.getElem_cons_zero, List.getElem_cons_succ]); go_simp; with_reducible rfl)
            try simp only [Act.put, List.setIfInBounds_toArray, List.set_cons_zero, List.set_cons_succ, List.getElem_toArray, List.getElem_cons_zero, List.getElem_cons_succ]
            refine wpAnyH_take (i := 15) (oi := _) (v := ?_) rfl (by kernel_rfl) (by kernel_rfl) (by kernel_rfl) (fun _ _ _ h => h) ?_ (by assumption) ?_
            rotate_left 1
            · first | (refine Or.inl ⟨by rfl, ?_⟩; intro w hSw; (try dsimp only at hSw); (try simp only [List.getElem_toArray, List.getElem_cons_zero, List.getElem_cons_succ]); go_simp; done) | (refine Or.inl ⟨by rfl, ?_⟩; intro w hSw; (try dsimp only at hSw); (try simp only [List.getElem_toArray, List.getElem_cons_zero, List.getElem_cons_succ]); go_simp; with_reducible rfl)
            try simp only [Act.put, List.setIfInBounds_toArray, List.set_cons_zero, List.set_cons_succ, List.getElem_toArray, List.getElem_cons_zero, List.getElem_cons_succ]
            refine wpAnyH_take (i := 16) (oi := _) (v := ?_) rfl (by kernel_rfl) (by kernel_rfl) (by kernel_rfl) (fun _ _ _ h => h) ?_ (by assumption) ?_
            rotate_left 1
            · first | (refine Or.inl ⟨by rfl, ?_⟩; intro w hSw; (try dsimp only at hSw); (try simp only [List.getElem_toArray, List.getElem_cons_zero, List.getElem_cons_succ]); go_simp; done) | (refine Or.inl ⟨by rfl, ?_⟩; intro w hSw; (try dsimp only at hSw); (try simp only [List.getElem_toArray, List.getElem_cons_zero, List.getElem_cons_succ]); go_simp; with_reducible rfl)
            try simp only [Act.put, List.setIfInBounds_toArray, List.set_cons_zero, List.set_cons_succ, List.getElem_toArray, List.getElem_cons_zero, List.getElem_cons_succ]
            refine wpAnyH_take (i := 17) (oi := _) (v := ?_) rfl (by kernel_rfl) (by kernel_rfl) (by kernel_rfl) (fun _ _ _ h => h) ?_ (by assumption) ?_
            rotate_left 1
            · first | (refine Or.inl ⟨by rfl, ?_⟩; intro w hSw; (try dsimp only at hSw); (try simp only [List.getElem_toArray, List.getElem_cons_zero, List.getElem_cons_succ]); go_simp; done) | (refine Or.inl ⟨by rfl, ?_⟩; intro w hSw; (try dsimp only at hSw); (try simp only [List.getElem_toArray, List.getElem_cons_zero, List.getElem_cons_succ]); go_simp; with_reducible rfl)
            try simp only [Act.put, List.setIfInBounds_toArray, List.set_cons_zero, List.set_cons_succ, List.getElem_toArray, List.getElem_cons_zero, List.getElem_cons_succ]
            try simp only [hz1]
            refine wpAnyH_take (i := 18) (oi := _) (v := ?_) rfl (by kernel_rfl) (by kernel_rfl) (by kernel_rfl) (fun _ _ _ h => h) ?_ (by assumption) ?_
            rotate_left 1
            · first | (refine Or.inl ⟨by rfl, ?_⟩; intro w hSw; (try dsimp only at hSw); (try simp only [List.getElem_toArray, List.getElem_cons_zero, List.getElem_cons_succ]); go_simp; done) | (refine Or.inl ⟨by rfl, ?_⟩; intro w hSw; (try dsimp only at hSw); (try simp only [List.getElem_toArray, List.getElem_cons_zero, List.getElem_cons_succ]); go_simp; with_reducible rfl)
            try simp only [Act.put, List.setIfInBounds_toArray, List.set_cons_zero, List.set_cons_succ, List.getElem_toArray, List.getElem_cons_zero, List.getElem_cons_succ]
            try simp only [hz1]
            refine wpAnyH_take (i := 19) (oi := _) (v := undef) rfl (by kernel_rfl) (by kernel_rfl) (by kernel_rfl) (fun _ _ _ h => h) (Or.inr ⟨by kernel_rfl, rfl⟩) (by assumption) ?_
            try simp only [Act.put, List.setIfInBounds_toArray, List.set_cons_zero, List.set_cons_succ, List.getElem_toArray, List.getElem_cons_zero, List.getElem_cons_succ]
            refine wpAnyH_take (i := 20) (oi := _) (v := undef) rfl (by kernel_rfl) (by kernel_rfl) (by kernel_rfl) (fun _ _ _ h => h) (Or.inr ⟨by kernel_rfl, rfl⟩) (by assumption) ?_
            try simp only [Act.put, List.setIfInBounds_toArray, List.set_cons_zero, List.set_cons_succ, List.getElem_toArray, List.getElem_cons_zero, List.getElem_cons_succ]
            refine wpAnyH_take (i := 21) (oi := _) (v := undef) rfl (by kernel_rfl) (by kernel_rfl) (by kernel_rfl) (fun _ _ _ h => h) (Or.inr ⟨by kernel_rfl, rfl⟩) (by assumption) ?_
            try simp only [Act.put, List.setIfInBounds_toArray, List.set_cons_zero, List.set_cons_succ, List.getElem_toArray, List.getElem_cons_zero, List.getElem_cons_succ]
            refine wpAnyH_take (i := 22) (oi := _) (v := undef) rfl (by kernel_rfl) (by kernel_rfl) (by kernel_rfl) (fun _ _ _ h => h) (Or.inr ⟨by kernel_rfl, rfl⟩) (by assumption) ?_
            try simp only [Act.put, List.setIfInBounds_toArray, List.set_cons_zero, List.set_cons_succ, List.getElem_toArray, List.getElem_cons_zero, List.getElem_cons_succ]
            refine wpAnyH_take (i := 23) (oi := _) (v := undef) rfl (by kernel_rfl) (by kernel_rfl) (by kernel_rfl) (fun _ _ _ h => h) (Or.inr ⟨by kernel_rfl, rfl⟩) (by assumption) ?_
            try simp only [Act.put, List.setIfInBounds_toArray, List.set_cons_zero, List.set_cons_succ, List.getElem_toArray, List.getElem_cons_zero, List.getElem_cons_succ]
            refine wpAnyH_take (i := 24) (oi := _) (v := undef) rfl (by kernel_rfl) (by kernel_rfl) (by kernel_rfl) (fun _ _ _ h => h) (Or.inr ⟨by kernel_rfl, rfl⟩) (by assumption) ?_
            try simp only [Act.put, List.setIfInBounds_toArray, List.set_cons_zero, List.set_cons_succ, List.getElem_toArray, List.getElem_cons_zero, List.getElem_cons_succ]
            refine wpAnyH_take (i := 25) (oi := _) (v := undef) rfl (by kernel_rfl) (by kernel_rfl) (by kernel_rfl) (fun _ _ _ h => h) (Or.inr ⟨by kernel_rfl, rfl⟩) (by assumption) ?_
            try simp only [Act.put, List.setIfInBounds_toArray, List.set_cons_zero, List.set_cons_succ, List.getElem_toArray, List.getElem_cons_zero, List.getElem_cons_succ]
            refine wpAnyH_take (i := 26) (oi := _) (v := undef) rfl (by kernel_rfl) (by kernel_rfl) (by kernel_rfl) (fun _ _ _ h => h) (Or.inr ⟨by kernel_rfl, rfl⟩) (by assumption) ?_
            try simp only [Act.put, List.setIfInBounds_toArray, List.set_cons_zero, List.set_cons_succ, List.getElem_toArray, List.getElem_cons_zero, List.getElem_cons_succ]
            refine wpAnyH_take (i := 27) (oi := _) (v := undef) rfl (by kernel_rfl) (by kernel_rfl) (by kernel_rfl) (fun _ _ _ h => h) (Or.inr ⟨by kernel_rfl, rfl⟩) (by assumption) ?_
            try simp only [Act.put, List.setIfInBounds_toArray, List.set_cons_zero, List.set_cons_succ, List.getElem_toArray, List.getElem_cons_zero, List.getElem_cons_succ]
            refine wpAnyH_take (i := 28) (oi := _) (v := undef) rfl (by kernel_rfl) (by kernel_rfl) (by kernel_rfl) (fun _ _ _ h => h) (Or.inr ⟨by kernel_rfl, rfl⟩) (by assumption) ?_
            try simp only [Act.put, List.setIfInBounds_toArray, List.set_cons_zero, List.set_cons_succ, List.getElem_toArray, List.getElem_cons_zero, List.getElem_cons_succ]
            refine wpAnyH_take (i := 29) (oi := _) (v := undef) rfl (by kernel_rfl) (by kernel_rfl) (by kernel_rfl) (fun _ _ _ h => h) (Or.inr ⟨by kernel_rfl, rfl⟩) (by assumption) ?_
            try simp only [Act.put, List.setIfInBounds_toArray, List.set_cons_zero, List.set_cons_succ, List.getElem_toArray, List.getElem_cons_zero, List.getElem_cons_succ]
            refine wpAnyH_take (i := 30) (oi := _) (v := undef) rfl (by kernel_rfl) (by kernel_rfl) (by kernel_rfl) (fun _ _ _ h => h) (Or.inr ⟨by kernel_rfl, rfl⟩) (by assumption) ?_
            try simp only [Act.put, List.setIfInBounds_toArray, List.set_cons_zero, List.set_cons_succ, List.getElem_toArray, List.getElem_cons_zero, List.getElem_cons_succ]
            refine wpAnyH_take (i := 31) (oi := _) (v := undef) rfl (by kernel_rfl) (by kernel_rfl) (by kernel_rfl) (fun _ _ _ h => h) (Or.inr ⟨by kernel_rfl, rfl⟩) (by assumption) ?_
            try simp only [Act.put, List.setIfInBounds_toArray, List.set_cons_zero, List.set_cons_succ, List.getElem_toArray, List.getElem_cons_zero, List.getElem_cons_succ]
            refine wpAnyH_take (i := 32) (oi := _) (v := ?_) rfl (by kernel_rfl) (by kernel_rfl) (by kernel_rfl) (fun _ _ _ h => h) ?_ (by assumption) ?_
            rotate_left 1
            · first | (refine Or.inl ⟨by rfl, ?_⟩; intro w hSw; (try dsimp only at hSw); (try simp only [List.getElem_toArray, List.getElem_cons_zero, List.getElem_cons_succ]); go_simp; done) | (refine Or.inl ⟨by rfl, ?_⟩; intro w hSw; (try dsimp only at hSw); (try simp only [List.getElem_toArray, List.getElem_cons_zero, List.getElem_cons_succ]); go_simp; with_reducible rfl)
            try simp only [Act.put, List.setIfInBounds_toArray, List.set_cons_zero, List.set_cons_succ, List.getElem_toArray, List.getElem_cons_zero, List.getElem_cons_succ]
            refine wpAnyH_take (i := 33) (oi := _) (v := ?_) rfl (by kernel_rfl) (by kernel_rfl) (by kernel_rfl) (fun _ _ _ h => h) ?_ (by assumption) ?_
            rotate_left 1
            · first | (refine Or.inl ⟨by rfl, ?_⟩; intro w hSw; (try dsimp only at hSw); (try simp only [List.getElem_toArray, List.getElem_cons_zero, List.getElem_cons_succ]); go_simp; done) | (refine Or.inl ⟨by rfl, ?_⟩; intro w hSw; (try dsimp only at hSw); (try simp only [List.getElem_toArray, List.getElem_cons_zero, List.getElem_cons_succ]); go_simp; with_reducible rfl)
            try simp only [Act.put, List.setIfInBounds_toArray, List.set_cons_zero, List.set_cons_succ, List.getElem_toArray, List.getElem_cons_zero, List.getElem_cons_succ]
            refine wpAnyH_take (i := 34) (oi := _) (v := ?_) rfl (by kernel_rfl) (by kernel_rfl) (by kernel_rfl) (fun _ _ _ h => h) ?_ (by assumption) ?_
            rotate_left 1
            · first | (refine Or.inl ⟨by rfl, ?_⟩; intro w hSw; (try dsimp only at hSw); (try simp only [List.getElem_toArray, List.getElem_cons_zero, List.getElem_cons_succ]); go_simp; done) | (refine Or.inl ⟨by rfl, ?_⟩; intro w hSw; (try dsimp only at hSw); (try simp only [List.getElem_toArray, List.getElem_cons_zero, List.getElem_cons_succ]); go_simp; with_reducible rfl)
            try simp only [Act.put, List.setIfInBounds_toArray, List.set_cons_zero, List.set_cons_succ, List.getElem_toArray, List.getElem_cons_zero, List.getElem_cons_succ]
            refine wpAnyH_take (i := 35) (oi := _) (v := ?_) rfl (by kernel_rfl) (by kernel_rfl) (by kernel_rfl) (fun _ _ _ h => h) ?_ (by assumption) ?_
            rotate_left 1
            · first | (refine Or.inl ⟨by rfl, ?_⟩; intro w hSw; (try dsimp only at hSw); (try simp only [List.getElem_toArray, List.getElem_cons_zero, List.getElem_cons_succ]); go_simp; done) | (refine Or.inl ⟨by rfl, ?_⟩; intro w hSw; (try dsimp only at hSw); (try simp only [List.getElem_toArray, List.getElem_cons_zero, List.getElem_cons_succ]); go_simp; with_reducible rfl)
            try simp only [Act.put, List.setIfInBounds_toArray, List.set_cons_zero, List.set_cons_succ, List.getElem_toArray, List.getElem_cons_zero, List.getElem_cons_succ]
            refine wpAnyH_take (i := 36) (oi := _) (v := ?_) rfl (by kernel_rfl) (by kernel_rfl) (by kernel_rfl) (fun _ _ _ h => h) ?_ (by assumption) ?_
            rotate_left 1
            · first | (refine Or.inl ⟨by rfl, ?_⟩; intro w hSw; (try dsimp only at hSw); (try simp only [List.getElem_toArray, List.getElem_cons_zero, List.getElem_cons_succ]); go_simp; done) | (refine Or.inl ⟨by rfl, ?_⟩; intro w hSw; (try dsimp only at hSw); (try simp only [List.getElem_toArray, List.getElem_cons_zero, List.getElem_cons_succ]); go_simp; with_reducible rfl)
            try simp only [Act.put, List.setIfInBounds_toArray, List.set_cons_zero, List.set_cons_succ, List.getElem_toArray, List.getElem_cons_zero, List.getElem_cons_succ]
            refine wpAnyH_take (i := 37) (oi := _) (v := ?_) rfl (by kernel_rfl) (by kernel_rfl) (by kernel_rfl) (fun _ _ _ h => h) ?_ (by assumption) ?_
            rotate_left 1
            · first | (refine Or.inl ⟨by rfl, ?_⟩; intro w hSw; (try dsimp only at hSw); (try simp only [List.getElem_toArray, List.getElem_cons_zero, List.getElem_cons_succ]); go_simp; done) | (refine Or.inl ⟨by rfl, ?_⟩; intro w hSw; (try dsimp only at hSw); (try simp only [List.getElem_toArray, List.getElem_cons_zero, List.getElem_cons_succ]); go_simp; with_reducible rfl)
            try simp only [Act.put, List.setIfInBounds_toArray, List.set_cons_zero, List.set_cons_succ, List.getElem_toArray, List.getElem_cons_zero, List.getElem_cons_succ]
            refine wpAnyH_take (i := 38) (oi := _) (v := ?_) rfl (by kernel_rfl) (by kernel_rfl) (by kernel_rfl) (fun _ _ _ h => h) ?_ (by assumption) ?_
            rotate_left 1
            · first | (refine Or.inl ⟨by rfl, ?_⟩; intro w hSw; (try dsimp only at hSw); (try simp only [List.getElem_toArray, List.getElem_cons_zero, List.getElem_cons_succ]); go_simp; done) | (refine Or.inl ⟨by rfl, ?_⟩; intro w hSw; (try dsimp only at hSw); (try simp only [List.getElem_toArray, List.getElem_cons_zero, List.getElem_cons_succ]); go_simp; with_reducible rfl)
            try simp only [Act.put, List.setIfInBounds_toArray, List.set_cons_zero, List.set_cons_succ, List.getElem_toArray, List.getElem_cons_zero, List.getElem_cons_succ]
            refine wpAnyH_take (i := 39) (oi := _) (v := ?_) rfl (by kernel_rfl) (by kernel_rfl) (by kernel_rfl) (fun _ _ _ h => h) ?_ (by assumption) ?_
            rotate_left 1
            · first | (refine Or.inl ⟨by rfl, ?_⟩; intro w hSw; (try dsimp only at hSw); (try simp only [List.getElem_toArray, List.getElem_cons_zero, List.getElem_cons_succ]); go_simp; done) | (refine Or.inl ⟨by rfl, ?_⟩; intro w hSw; (try dsimp only at hSw); (try simp only [List.getElem_toArray, List.getElem_cons_zero, List.getElem_cons_succ]); go_simp; with_reducible rfl)
            try simp only [Act.put, List.setIfInBounds_toArray, List.set_cons_zero, List.set_cons_succ, List.getElem_toArray, List.getElem_cons_zero, List.getElem_cons_succ]
            refine wpAnyH_ready (rs := [40]) (by kernel_rfl) (by simp) ?_
            refine AllReadyH.cons (o := _) rfl (fun K hK => ?_) AllReadyH.nil
            try simp only [List.getElem_toArray, List.getElem_cons_zero, List.getElem_cons_succ]
            go_simp
            refine (HLQ.out _ (undrew b4)).mono ?_
            rintro e w6 ⟨vl, rfl, hol, b6⟩
            obtain ⟨al, cl, rfl⟩ := owns_shape hol
            go_wp2_with fail
            refine hK.out _ _ (KEEP.out _ ((undrew b4).trans (b6.mono (undrew b4).size))) (fun hHeld => ?_)
            clear hK K
            try simp only [Act.put, List.setIfInBounds_toArray, List.set_cons_zero, List.set_cons_succ, List.getElem_toArray, List.getElem_cons_zero, List.getElem_cons_succ]
            refine wpAnyH_take (i := 41) (oi := _) (v := ?_) rfl (by kernel_rfl) (by kernel_rfl) (by kernel_rfl) (fun _ _ _ h => h) ?_ (by assumption) ?_
            rotate_left 1
            · first | (refine Or.inl ⟨by rfl, ?_⟩; intro w hSw; (try dsimp only at hSw); (try simp only [List.getElem_toArray, List.getElem_cons_zero, List.getElem_cons_succ]); go_simp; done) | (refine Or.inl ⟨by rfl, ?_⟩; intro w hSw; (try dsimp only at hSw); (try simp only [List.getElem_toArray, List.getElem_cons_zero, List.getElem_cons_succ]); go_simp; with_reducible rfl)
            try simp only [Act.put, List.setIfInBounds_toArray, List.set_cons_zero, List.set_cons_succ, List.getElem_toArray, List.getElem_cons_zero, List.getElem_cons_succ]
            refine wpAnyH_take (i := 42) (oi := _) (v := ?_) rfl (by kernel_rfl) (by kernel_rfl) (by kernel_rfl) (fun _ _ _ h => h) ?_ (by assumption) ?_
            rotate_left 1
            · first | (refine Or.inl ⟨by rfl, ?_⟩; intro w hSw; (try dsimp only at hSw); (try simp only [List.getElem_toArray, List.getElem_cons_zero, List.getElem_cons_succ]); go_simp; done) | (refine Or.inl ⟨by rfl, ?_⟩; intro w hSw; (try dsimp only at hSw); (try simp only [List.getElem_toArray, List.getElem_cons_zero, List.getElem_cons_succ]); go_simp; with_reducible rfl)
            try simp only [Act.put, List.setIfInBounds_toArray, List.set_cons_zero, List.set_cons_succ, List.getElem_toArray, List.getElem_cons_zero, List.getElem_cons_succ]
            refine wpAnyH_take (i := 43) (oi := _) (v := ?_) rfl (by kernel_rfl) (by kernel_rfl) (by kernel_rfl) (fun _ _ _ h => h) ?_ (by assumption) ?_
            rotate_left 1
            · first | (refine Or.inl ⟨by rfl, ?_⟩; intro w hSw; (try dsimp only at hSw); (try simp only [List.getElem_toArray, List.getElem_cons_zero, List.getElem_cons_succ]); go_simp; done) | (refine Or.inl ⟨by rfl, ?_⟩; intro w hSw; (try dsimp only at hSw); (try simp only [List.getElem_toArray, List.getElem_cons_zero, List.getElem_cons_succ]); go_simp; with_reducible rfl)
            try simp only [Act.put, List.setIfInBounds_toArray, List.set_cons_zero, List.set_cons_succ, List.getElem_toArray, List.getElem_cons_zero, List.getElem_cons_succ]
            refine wpAnyH_done (by kernel_rfl) ?_ _
            have HB7 : Hid (Below w3.heap.size w3 w6) := Lib.hid (HBX.out.trans (((undrew b4).trans (b6.mono (undrew b4).size)).mono hBX))
            clear KEEP c0 c1
            go_wp2
            go_roundw
            case rel => exact ⟨m + 1, by omega, by go_num, HB7.out⟩
            case measure => simp [RowKit.intOf]; omega
          · obtain ⟨j, hj⟩ : ∃ j, m = j + 1 := ⟨m - 1, by omega⟩
            obtain ⟨k', E, cp0, hE, hkE, hEX⟩ := HPV.out j hj
            subst hj
            have HEQ : Hid (∀ W, Below wx.heap.size wx W → Calls Tryd.prog 11 #[.slice (some ⟨g, 0, none⟩) X.length cp, .int .i64 (k' : Int)] W fun e w' => e = .returned (.int .i64 (E : Int)) ∧ Below W.heap.size W w') := Lib.hid (fun W hb => by
              have := SEN.out W (HWX.out.trans (hb.mono HWX.out.size)) k'
              rw [hE] at this
              exact this)
            have hdE : ((k : Int) != (E : Int) + 1) = false := bne_eq_false_iff_eq.2 hkE
            have j0 : (0 : Int) ≤ (j : Int) := by omega
            have j1 : (j : Int) + 1 < (n : Int) := by omega
            have j3 : (0 : Int) ≤ (j : Int) + 1 := by omega
            have j2 : (j : Int) < (n : Int) := by omega
            have hj3 : decide ((0 : Int) < (j : Int) + 1) = true := decide_eq_true (by omega)
            have HW1 : Hid (IntKind.i64.wrap ((j : Int) + 1 - 1) = (j : Int)) := Lib.hid (by rw [show (j : Int) + 1 - 1 = (j : Int) from by omega]; exact IntWalk.i64_in _ (by omega))
            have HW1' : Hid (IntKind.i64.wrap (j : Int) = (j : Int)) := Lib.hid (IntWalk.i64_in _ (by omega))
            have HW2 : Hid (IntKind.i64.wrap ((E : Int) + 1) = (E : Int) + 1) := Lib.hid (IntWalk.i64_in _ (by omega))
            clear HPV hE hkE
            have KEEP : Hid (∀ W, Below wx.heap.size wx W → (W.cell? ⟨gv, j + 1, none⟩ = some (.int .i64 (k : Int)) ∧ W.cell? ⟨g, k * 4 + 1, none⟩ = some (.string nm) ∧ W.cell? ⟨gv, j, none⟩ = some (.int .i64 (k' : Int)))) := Lib.hid (fun W hb => ⟨(hb.cell (p := ⟨gv, _, none⟩) hgv).trans c0, (hb.cell (p := ⟨g, _, none⟩) hgx).trans c1, (hb.cell (p := ⟨gv, _, none⟩) hgv).trans cp0⟩)
            clear hbx
            go_wp2_with fail
            have q1 := HW1.out
            have q2 := HW1'.out
            have q3 := HW2.out
            go_region_held3 (fun w' => w'.cell? ⟨gv, j + 1, none⟩ = some (.int .i64 (k : Int)) ∧ w'.cell? ⟨g, k * 4 + 1, none⟩ = some (.string nm) ∧ w'.cell? ⟨gv, j, none⟩ = some (.int .i64 (k' : Int))) (first | go_keep | exact KEEP.out _ (undrew b4) | exact KEEP.out _ ((undrew b4).trans (b5.mono (undrew b4).size)) | exact KEEP.out _ (((undrew b4).trans (b5.mono (undrew b4).size)).trans (b6.mono ((undrew b4).trans (b5.mono (undrew b4).size)).size))) (first
              | (go_at_call 13; refine (HFQ.out _ ?_).mono ?_; exact (Below.refl wx.heap.size wx).drew; rintro e w4 ⟨rfl, b4⟩)
              | (go_at_call 11; refine (HEQ.out _ ?_).mono ?_; exact (undrew b4); rintro e w5 ⟨rfl, b5⟩)
              | (go_at_call 14; refine (HLQ.out _ ?_).mono ?_; exact ((undrew b4).trans (b5.mono (undrew b4).size)); rintro e w6 ⟨vl, rfl, hol, b6⟩; obtain ⟨al, cl, rfl⟩ := owns_shape hol))
            all_goals
              have HB7 : Hid (Below w3.heap.size w3 w6) := Lib.hid (HBX.out.trans ((((undrew b4).trans (b5.mono (undrew b4).size)).trans (b6.mono ((undrew b4).trans (b5.mono (undrew b4).size)).size)).mono hBX))
              clear KEEP c0 c1 q1 q2 q3
              go_wp2
              go_roundw
              case rel => exact ⟨j + 1 + 1, by omega, by go_num, HB7.out⟩
              case measure => simp [RowKit.intOf]; omega
        · have hmm : m = n := by omega
          have hdn : decide ((0 : Int) < (n : Int)) = true := decide_eq_true (by omega)
          have HBF : Hid (Below w.heap.size w wx) := Lib.hid (HB1.out.trans (HWX.out.mono hs1))
          subst hmm
          clear hbx hlm
          go_wp2
          go_ret
          exact ⟨rfl, HBF.out⟩
end Go.Proofs.YthmllcpldgbbcaaDoor.fnBlocks
