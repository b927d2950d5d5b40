/- The model's FormatProgram. -/
import Derived.Test.YtbdplcbmfcfigaaDoorFlnSpec
namespace Go.Proofs.YtbdplcbmfcfigaaDoor
open Go.RowKit Go.Lib

set_option maxRecDepth 100000 in
set_option maxHeartbeats 4000000 in
theorem s_fprog (a : Option Addr) (cap : Nat) (X : List LnL) (w : World) (hl : X.length ≤ 2000000) (hr : ReadL 9 32 w a X) (hz : ∀ x ∈ X, SmallL x.p) :
    Calls Tryd.prog 24 #[.slice a X.length cap] w fun e w' => e = .returned (.string (progT (plL X))) ∧ Below w.heap.size w w' := by
  have HR := Lib.hid hr
  have HZ := Lib.hid hz
  clear hr hz
  go_enter Tryd.func24, Tryd.ntmps24
  go_wp2_with fail
  go_loopw [3, 4] (fun s i wr => ∃ (k : Nat) (t : ByteArray), k ≤ X.length ∧ i = .int .i64 (k : Int) ∧ s = .string t ∧ Hid (t.data.toList = prB ((plL X).take k) ∧ ((plL X).take k).all lineB = true ∧ (0 < k → X.length ≤ 60)) ∧ Below w.heap.size w wr) (fun _ i _ => X.length - (RowKit.intOf i).toNat)
  case atStart => exact ⟨0, ⟨#[]⟩, Nat.zero_le _, rfl, rfl, Lib.hid ⟨rfl, rfl, fun h => absurd h (by omega)⟩, Below.refl _ _⟩
  case round =>
    obtain ⟨k, t, hk, rfl, rfl, HT, hbel⟩ := hrel
    have HBE := Lib.hid hbel
    have hB := hbel.size
    have hlb := prB_take_len (plL X) k
    have htz : t.size ≤ 461 * k := by rw [← list_len, HT.out.1]; exact hlb
    clear hbel hlb
    by_cases hlt : k < X.length
    · by_cases h60 : 60 < X.length
      · have HV := Lib.hid (progT_long (plL X) (by rw [plL_length]; exact h60))
        have hd : decide (60 < (X.length : Int)) = true := decide_eq_true (by omega)
        go_wp2
        go_ret
        exact ⟨ret_s HV.out.symm, HBE.out⟩
      have hd : decide (60 < (X.length : Int)) = false := decide_eq_false (by omega)
      have hkp : k < (plL X).length := by rw [plL_length]; exact hlt
      obtain ⟨g, rfl, hg, ⟨c0, c1, c2, c3⟩, hm⟩ := (HR.out.below HBE.out) k hlt
      have hsm := HZ.out _ (List.getElem_mem hlt)
      have NX := Lib.hid (all_next (plL X) k hkp HT.out.2.1)
      have PN := Lib.hid (prB_next (plL X) k hkp)
      have BD := Lib.hid (progT_bad (plL X) k hkp)
      rw [plL_get X k hlt] at NX PN BD
      obtain ⟨x, hx⟩ : ∃ x, X[k] = x := ⟨_, rfl⟩
      rw [hx] at c0 c1 c2 c3 hm hsm NX PN BD
      obtain ⟨xa, xb, xc, xd, ea, ee, rs, rt, hcap, hnil⟩ := inMem_shape hm
      rw [ea] at c2
      rw [ee] at c3
      obtain ⟨z1, z2, z3, z4, z5⟩ := hsm
      have hNM : NamesT x.p.expr := fun j hj => small_max (z5 _ (List.getElem_mem hj))
      have hAZ : ∀ s ∈ x.p.args, s.size ≤ maxLen := fun s hs => small_max (z3 s hs)
      have HK := Lib.hid (fun W (hb : Below wr.heap.size wr W) => s_lineok x.p xa xb xc xd W (rs.below hb) (rt.below hb) (by omega) hAZ (small_max z1) z4 hNM)
      have HF := Lib.hid (fun W (hb : Below wr.heap.size wr W) => s_fline x.p xa xb xc xd W (rs.below hb) (rt.below hb) (by omega) hAZ (small_max z1) z4 hNM)
      have hts := lineT_size x.p
      obtain ⟨u, hu⟩ : ∃ u, lineT x.p = u := ⟨_, rfl⟩
      rw [hu] at HF PN hts
      obtain ⟨kk, nm, gs, ex, va, ve⟩ := x
      dsimp only [LnL.p] at c0 c1 c2 c3 HF HK NX PN BD
      have k0 : (0 : Int) ≤ (k : Int) := by omega
      have k1 : (k : Int) < (X.length : Int) := by omega
      clear hx hu hm rs rt hcap hnil ea ee hkp z1 z2 z3 z4 z5 hNM hAZ
      cases hlb2 : lineB ⟨kk, nm, gs, ex⟩ with
      | false =>
        have HV := Lib.hid (BD.out hlb2)
        have HK2 := Lib.hid (fun W hb => hlb2 ▸ HK.out W hb)
        clear NX PN BD hlb2 HK
        go_wp2_with fail
        refine (HK2.out _ (Below.refl _ _)).mono ?_
        rintro e w1 ⟨rfl, b1⟩
        have HB2 : Hid (Below w.heap.size w w1) := Lib.hid (HBE.out.trans (b1.mono hB))
        clear b1
        go_wp2
        go_ret
        exact ⟨ret_s HV.out.symm, HB2.out⟩
      | true =>
        have HNX := Lib.hid (NX.out hlb2)
        have HK2 := Lib.hid (fun W hb => hlb2 ▸ HK.out W hb)
        have p1 : ∀ W : World, (Op.stringOp .add t u).run Tryd.prog W = .ok (.string (t ++ u)) W := fun W => run_string_add_sum (w := W) t u (by omega)
        have e10 : (⟨#[10]⟩ : ByteArray).size = 1 := rfl
        have p2 : ∀ W : World, (Op.stringOp .add (t ++ u) ⟨#[10]⟩).run Tryd.prog W = .ok (.string (t ++ u ++ ⟨#[10]⟩)) W := fun W => run_string_add_sum (w := W) (t ++ u) ⟨#[10]⟩ (by rw [ByteArray.size_append]; omega)
        have HX : Hid ((t ++ u ++ ⟨#[10]⟩).data.toList = prB ((plL X).take (k + 1))) := Lib.hid (by rw [app_list, app_list, HT.out.1, PN.out])
        clear NX PN BD hlb2 HK e10
        go_wp2_with fail
        refine (HK2.out _ (Below.refl _ _)).mono ?_
        rintro e w1 ⟨rfl, b1⟩
        have d0 := (b1.cell (p := ⟨g, k * 4, none⟩) hg).trans c0
        have d1 := (b1.cell (p := ⟨g, k * 4 + 1, none⟩) hg).trans c1
        have d2 := (b1.cell (p := ⟨g, k * 4 + 2, none⟩) hg).trans c2
        have d3 := (b1.cell (p := ⟨g, k * 4 + 3, none⟩) hg).trans c3
        have HB1 := Lib.hid b1
        have z1 := b1.size
        clear b1 c0 c1 c2 c3
        go_wp2_with fail
        refine (HF.out _ HB1.out).mono ?_
        rintro e w2 ⟨rfl, b2⟩
        have HB2 : Hid (Below w.heap.size w w2) := Lib.hid (HBE.out.trans ((HB1.out.trans (b2.mono z1)).mono hB))
        clear b2
        go_wp2
        go_roundw
        case rel => exact ⟨k + 1, _, by omega, by go_num, rfl, Lib.hid ⟨HX.out, HNX.out, fun _ => by omega⟩, HB2.out⟩
        case measure => simp [RowKit.intOf]; omega
    · have hall : (plL X).take k = plL X := List.take_of_length_le (by rw [plL_length]; omega)
      have HX : Hid (t = progT (plL X)) := Lib.hid (by
        have h1 := HT.out.1
        have h2 := HT.out.2.1
        rw [hall] at h1 h2
        have h3 : (plL X).length ≤ 60 := by
          rw [plL_length]
          rcases Nat.eq_zero_or_pos k with h | h
          · omega
          · exact HT.out.2.2 h
        rw [progT_yes _ h3 h2]
        exact bl_eq h1)
      clear hall
      go_wp2
      go_ret
      exact ⟨ret_s HX.out, HBE.out⟩
end Go.Proofs.YtbdplcbmfcfigaaDoor
