/- The model's LineOk. -/
import Derived.Test.YtaplbefdijcceaaGreatDoorI28
import Derived.Test.YtaplbefdijcceaaGreatDoorI01
import Derived.Test.YtaplbefdijcceaaGreatDoorI00
import Derived.WalkSmall
import Derived.Deep.QuietTactic
import Derived.BigQuiet
namespace Go.Proofs.YtaplbefdijcceaaGreatDoor
open Go.RowKit Go.Lib
set_option maxHeartbeats 400000 in
theorem s_has (k : Int) (w : World) : Calls Tryz.prog 90 #[.int .i64 k] w fun e w' => e = .returned (.bool (exprK k)) ∧ w = w' := by
 by_cases h0 : k = 0
 ·subst h0
  go_enter Tryz.func90, Tryz.ntmps90
  go_wp2
  go_ret
  exact ⟨ret_b rfl, rfl⟩
 by_cases h4 : k = 4
 ·subst h4
  go_enter Tryz.func90, Tryz.ntmps90
  go_wp2
  go_ret
  exact ⟨ret_b rfl, rfl⟩
 have a0 : (k != 0) = true := by simpa using h0
 have a4 : (k != 4) = true := by simpa using h4
 by_cases h7 : k = 7
 ·subst h7
  go_enter Tryz.func90, Tryz.ntmps90
  go_wp2
  go_ret
  exact ⟨ret_b rfl, rfl⟩
 have a7 : (k != 7) = true := by simpa using h7
 have HV : Hid (exprK k = true) := hid (by unfold exprK; rw [decide_eq_false h0, decide_eq_false h4, decide_eq_false h7]; rfl)
 clear h0 h4 h7
 go_enter Tryz.func90, Tryz.ntmps90
 go_wp2
 go_ret
 exact ⟨ret_b HV.out.symm, rfl⟩
theorem af_big (b : Bool) (l : List ByteArray) (h : 4 < l.length) : afB b l = false := by
 cases hb : afB b l with
 | false => rfl
 | true => have := (af_small b l hb).1; omega
theorem line_af (p : PLine) (h : afB (decide (p.kind = 0)) p.args = false) : lineB p = false := by
 cases hb : lineB p with
 | false => rfl
 | true => have := ((lineB_iff p).1 hb).2.2.1; rw [h] at this; cases this
theorem line_nf (p : PLine) (h : nfB (namedB p.kind) p.name = false) : lineB p = false := by
 cases hb : lineB p with
 | false => rfl
 | true => have := ((lineB_iff p).1 hb).2.1; rw [h] at this; cases this
theorem line_ef (p : PLine) (h0 : 0 ≤ p.kind) (h7 : p.kind ≤ 7) (h1 : nfB (namedB p.kind) p.name = true) (h2 : afB (decide (p.kind = 0)) p.args = true) : lineB p = efB (exprK p.kind) p.expr := by
 unfold lineB
 rw [decide_eq_true h0, decide_eq_true h7, h1, h2]
 rfl
theorem af_diff (l : List ByteArray) (h : diffB l = false) : afB true l = false := by
 unfold afB; rw [if_pos rfl, h, Bool.and_false]
theorem af_some (b : Bool) (l : List ByteArray) (hb : b = false) (h : 0 < l.length) : afB b l = false := by
 subst hb; unfold afB; rw [if_neg (by decide)]; exact decide_eq_false (by omega)
set_option maxRecDepth 100000 in
set_option maxHeartbeats 4000000 in
theorem s_lineok (p : PLine) (a b : Option Addr) (c d : Nat) (w : World) (hA : ReadS w a p.args) (hT : ReadT w b p.expr) (l1 : p.args.length ≤ 2000000) (l2 : ∀ s ∈ p.args, s.size ≤ maxLen) (l3 : p.name.size ≤ maxLen) (l4 : p.expr.length ≤ 1048576) (l5 : NamesT p.expr) :
  Calls Tryz.prog 45 #[.agg #[.int .i64 p.kind, .string p.name, .slice a p.args.length c, .slice b p.expr.length d]] w fun e w' => e = .returned (.bool (lineB p)) ∧ Below w.heap.size w w' := by
 by_cases hk : p.kind < 0 ∨ 7 < p.kind
 ·have HV := hid (lineB_out p hk)
  have hd : (decide (0 ≤ p.kind) && decide (p.kind ≤ 7)) = false := by
   rcases hk with h | h
   ·rw [decide_eq_false (by omega)]; rfl
   ·rw [decide_eq_false (by omega : ¬ p.kind ≤ 7), Bool.and_false]
  have S := hid (fun W => hd ▸ s_in p.kind 0 7 W)
  obtain ⟨k, nm, gs, ex⟩ := p
  dsimp only at HV S ⊢
  clear hA hT hd hk l1 l2 l3 l4 l5
  go_enter Tryz.func45, Tryz.ntmps45
  go_wp2_with fail
  refine (S.out _).mono ?_
  rintro e w' ⟨rfl, rfl⟩
  go_wp2
  go_ret
  exact ⟨ret_b HV.out.symm, (Below.refl _ _).alloc (Nat.le_refl _) _⟩
 have hk0 : 0 ≤ p.kind := by omega
 have hk7 : p.kind ≤ 7 := by omega
 have S := hid (fun W => (show (decide (0 ≤ p.kind) && decide (p.kind ≤ 7)) = true by rw [decide_eq_true hk0, decide_eq_true hk7]; rfl) ▸ s_in p.kind 0 7 W)
 by_cases h4 : 4 < p.args.length
 ·have HV := hid (line_af p (af_big _ _ h4))
  obtain ⟨k, nm, gs, ex⟩ := p
  dsimp only at HV S h4 l1 ⊢
  have hd : decide (4 < (gs.length : Int)) = true := decide_eq_true (by omega)
  clear hA hT hk h4 l2 l3 l4 l5
  go_enter Tryz.func45, Tryz.ntmps45
  go_wp2_with fail
  refine (S.out _).mono ?_
  rintro e w' ⟨rfl, rfl⟩
  go_wp2
  go_ret
  exact ⟨ret_b HV.out.symm, (Below.refl _ _).alloc (Nat.le_refl _) _⟩
 have AF := hid (line_af p)
 have NF := hid (line_nf p)
 have EF := hid (line_ef p hk0 hk7)
 obtain ⟨k, nm, gs, ex⟩ := p
 dsimp only at S AF NF EF h4 l1 l2 l3 l4 l5 hA hT hk0 hk7 ⊢
 have hd : decide (4 < (gs.length : Int)) = false := decide_eq_false (by omega)
 have HR := hid hA
 have HT := hid hT
 have HZ := hid l2
 have HN5 := hid l5
 clear hA hT hk l2 l5
 have hb0 : Below w.heap.size w (w.alloc (.cells #[.int .i64 k, .string nm, .slice a gs.length c, .slice b ex.length d] 42)) := (Below.refl _ _).alloc (Nat.le_refl _) _
 have HR0 := hid (HR.out.below hb0)
 have HT0 := hid (HT.out.below hb0)
 have HB0 := hid hb0
 clear hb0
 go_enter Tryz.func45, Tryz.ntmps45
 go_wp2_with fail
 refine (S.out _).mono ?_
 rintro e w' ⟨rfl, rfl⟩
 go_wp2_with fail
 go_loopw [3, 4] (fun i _ wr => ∃ (j q : Nat), j ≤ gs.length ∧ i = .int .i64 (j : Int) ∧ Hid (diffB (gs.take j) = true ∧ (0 < j → k = 0)) ∧ wr = (w.alloc (.cells #[.int .i64 k, .string nm, .slice a gs.length c, .slice b ex.length d] 42)).drewN q) (fun i _ _ => gs.length - (RowKit.intOf i).toNat)
 case atStart => exact ⟨0, 0, Nat.zero_le _, rfl, hid ⟨rfl, fun h => absurd h (by omega)⟩, rfl⟩
 case round =>
  obtain ⟨j, q, hj, rfl, HD, rfl⟩ := hrel
  by_cases hlt : j < gs.length
  ·obtain ⟨g, rfl, c0⟩ := HR0.out j hlt
   have NX := hid (diffB_next gs j hlt HD.out.1)
   have BD := hid (diffB_bad gs j hlt)
   have hsz := HZ.out _ (List.getElem_mem hlt)
   have HAF : Hid (k ≠ 0 → lineB ⟨k, nm, gs, ex⟩ = false) := hid (fun h => AF.out (af_some _ _ (decide_eq_false h) (by omega)))
   have HAD : Hid (k = 0 → diffB gs = false → lineB ⟨k, nm, gs, ex⟩ = false) := hid (fun h hd => AF.out (by rw [decide_eq_true h]; exact af_diff _ hd))
   obtain ⟨y, hy⟩ : ∃ y, gs[j] = y := ⟨_, rfl⟩
   rw [hy] at c0 NX BD hsz
   have HY := hid hy
   have HN := hid (fun W => s_name y W hsz)
   have k0 : (0 : Int) ≤ (j : Int) := by omega
   have k1 : (j : Int) < (gs.length : Int) := by omega
   clear hy hsz
   cases hb : nameB y with
   | false =>
    have HV : Hid (lineB ⟨k, nm, gs, ex⟩ = false) := hid (by
     by_cases h : k = 0
     ·exact HAD.out h (BD.out (.inl hb))
     ·exact HAF.out h)
    rw [hb] at HN
    clear hb NX BD
    go_wp2_with fail
    refine (HN.out _).mono ?_
    rintro e w' ⟨rfl, rfl⟩
    go_wp2
    go_ret
    exact ⟨ret_b HV.out.symm, below_drewN HB0.out q⟩
   | true =>
    rw [hb] at HN
    by_cases hkz : k = 0
    ·subst hkz
     have BM := hid (fun h => HAD.out rfl (BD.out (.inr h)))
     have NY := hid (NX.out hb)
     clear hb NX BD HAF HAD
     go_wp2_with fail
     refine (HN.out _).mono ?_
     rintro e w' ⟨rfl, rfl⟩
     go_wp2_with fail
     go_loopw [4] (fun i wr => ∃ (m t : Nat), m ≤ j ∧ i = .int .i64 (m : Int) ∧ Hid (y ∉ gs.take m) ∧ wr = (w.alloc (.cells #[.int .i64 0, .string nm, .slice (some ⟨g, 0, none⟩) gs.length c, .slice b ex.length d] 42)).drewN t) (fun i _ => j - (RowKit.intOf i).toNat)
     case atStart => exact ⟨0, q, Nat.zero_le _, rfl, hid (by simp), rfl⟩
     case round =>
      obtain ⟨m, t, hm, rfl, HX, rfl⟩ := hrel
      by_cases hmj : m < j
      ·have hml : m < gs.length := by omega
       obtain ⟨g2, hg2, c2⟩ := HR0.out m hml
       injection hg2 with hg2
       injection hg2 with hg2
       subst hg2
       have NZ := hid (not_next gs y m hml HX.out)
       have YM : Hid (∀ z, gs[m] = z → z ∈ gs.take j) := hid (fun z hz => by
        rw [← hz]
        exact List.mem_take_iff_getElem.2 ⟨m, by omega, rfl⟩)
       obtain ⟨z, hz⟩ : ∃ z, gs[m] = z := ⟨_, rfl⟩
       rw [hz] at c2 NZ
       have YZ := hid (YM.out z hz)
       have m0 : (0 : Int) ≤ (m : Int) := by omega
       have m1 : (m : Int) < (gs.length : Int) := by omega
       have m2 : (m : Int) < (j : Int) := by omega
       clear hz hml YM
       by_cases hzy : z = y
       ·subst hzy
        have HV := hid (BM.out YZ.out)
        clear NZ
        go_wp2_with fail
        go_quiet (fail)
        go_wp2
        go_ret
        exact ⟨ret_b HV.out.symm, below_drewN (below_drewN HB0.out t) _⟩
       ·have hsf := str_ne z y hzy
        have NW := hid (NZ.out (fun e => hzy e.symm))
        clear hzy NZ
        go_wp2_with fail
        go_quiet (fail)
        go_wp2
        go_roundw
        case rel => exact ⟨m + 1, _, by omega, by go_num, NW, rfl⟩
        case measure => simp [RowKit.intOf]; omega
      ·have hme : m = j := by omega
       subst hme
       have HNX := hid (NY.out HX.out)
       clear hmj
       go_wp2
       go_roundw
       case rel => exact ⟨m + 1, t, by omega, by go_num, hid ⟨HNX.out, fun _ => by trivial⟩, rfl⟩
       case measure => simp [RowKit.intOf]; omega
    ·have HV := hid (HAF.out hkz)
     have a0 : (k != 0) = true := by simpa using hkz
     clear hb NX BD hkz HAF HAD
     go_wp2_with fail
     refine (HN.out _).mono ?_
     rintro e w' ⟨rfl, rfl⟩
     go_wp2
     go_ret
     exact ⟨ret_b HV.out.symm, below_drewN HB0.out q⟩
  ·have hjl : j = gs.length := by omega
   have HDA : Hid (diffB gs = true ∧ (0 < gs.length → k = 0)) := hid (by
    have h := HD.out
    rwa [List.take_of_length_le (by omega), hjl] at h)
   have HAT : Hid (afB (decide (k = 0)) gs = true) := hid (by
    by_cases h : k = 0
    ·rw [decide_eq_true h]; unfold afB; rw [if_pos rfl, HDA.out.1, decide_eq_true (by omega : gs.length ≤ 4)]; rfl
    ·rw [decide_eq_false h]; unfold afB; rw [if_neg (by decide)]
     refine decide_eq_true ?_
     rcases Nat.eq_zero_or_pos gs.length with h0 | h0
     ·exact h0
     ·exact absurd (HDA.out.2 h0) h)
   have HNM := hid (fun W => s_name nm W l3)
   obtain ⟨NB, hNB⟩ : ∃ x, nameB nm = x := ⟨_, rfl⟩
   have HNB := hid hNB
   rw [hNB] at HNM
   clear hNB HDA HD hjl AF
   by_cases hk0' : k = 0
   ·subst hk0'
    cases NB with
    | false =>
     have HV : Hid (lineB ⟨0, nm, gs, ex⟩ = false) := hid (NF.out HNB.out)
     go_wp2_with fail
     refine (HNM.out _).mono ?_
     rintro e w' ⟨rfl, rfl⟩
     go_wp2
     go_ret
     exact ⟨ret_b HV.out.symm, below_drewN HB0.out q⟩
    | true =>
     have HE : Hid (lineB ⟨0, nm, gs, ex⟩ = efB (exprK 0) ex) := hid (EF.out HNB.out HAT.out)
     go_wp2_with fail
     refine (HNM.out _).mono ?_
     rintro e w' ⟨rfl, rfl⟩
     go_wp2_with fail
     refine (s_has _ _).mono ?_
     rintro e w' ⟨rfl, rfl⟩
     by_cases hz : ex.length = 0
     ·have HV : Hid (lineB ⟨0, nm, gs, ex⟩ = true) := hid (by rw [HE.out]; show efB (exprK 0) ex = true; rw [show exprK 0 = false from rfl]; exact decide_eq_true hz)
      obtain rfl : ex = [] := List.length_eq_zero_iff.1 hz
      clear hz
      go_wp2
      go_ret
      exact ⟨ret_b HV.out.symm, below_drewN HB0.out q⟩
     ·have HV : Hid (lineB ⟨0, nm, gs, ex⟩ = false) := hid (by rw [HE.out]; show efB (exprK 0) ex = false; rw [show exprK 0 = false from rfl]; exact decide_eq_false hz)
      have hz1 : ((ex.length : Int) == 0) = false := beq_eq_false_iff_ne.2 (by omega)
      clear hz
      go_wp2
      go_ret
      exact ⟨ret_b HV.out.symm, below_drewN HB0.out q⟩
   by_cases hk1 : k = 1
   ·subst hk1
    cases NB with
    | false =>
     have HV : Hid (lineB ⟨1, nm, gs, ex⟩ = false) := hid (NF.out HNB.out)
     go_wp2_with fail
     refine (HNM.out _).mono ?_
     rintro e w' ⟨rfl, rfl⟩
     go_wp2
     go_ret
     exact ⟨ret_b HV.out.symm, below_drewN HB0.out q⟩
    | true =>
     have HE : Hid (lineB ⟨1, nm, gs, ex⟩ = efB (exprK 1) ex) := hid (EF.out HNB.out HAT.out)
     go_wp2_with fail
     refine (HNM.out _).mono ?_
     rintro e w' ⟨rfl, rfl⟩
     go_wp2_with fail
     refine (s_has _ _).mono ?_
     rintro e w' ⟨rfl, rfl⟩
     have HV : Hid (lineB ⟨1, nm, gs, ex⟩ = exprB ex) := hid (by rw [HE.out]; show efB (exprK 1) ex = exprB ex; rw [show exprK 1 = true from rfl]; rfl)
     go_wp2_with fail
     refine (s_exprok b d ex _ l4 (HT0.out.drewN q) HN5.out).mono ?_
     rintro e w1 ⟨rfl, b1⟩
     have HB1 : Hid (Below w.heap.size w w1) := hid ((below_drewN HB0.out q).trans (b1.mono (below_drewN HB0.out q).size))
     clear b1
     go_wp2
     go_ret
     exact ⟨ret_b HV.out.symm, HB1.out⟩
   have b0 : (k == 0) = false := beq_eq_false_iff_ne.2 hk0'
   have b1 : (k == 1) = false := beq_eq_false_iff_ne.2 hk1
   have HNK : Hid (namedB k = false) := hid (by unfold namedB; rw [decide_eq_false hk0', decide_eq_false hk1]; rfl)
   by_cases hnm : nm.size = 0
   ·obtain rfl := empty_of nm hnm
    have HE : Hid (lineB ⟨k, ⟨#[]⟩, gs, ex⟩ = efB (exprK k) ex) := hid (EF.out (by rw [HNK.out]; rfl) HAT.out)
    obtain ⟨EK, hEK⟩ : ∃ x, exprK k = x := ⟨_, rfl⟩
    have HEK := hid hEK
    have HS := hid (fun W => hEK ▸ s_has k W)
    clear hEK hnm hk0' hk1
    cases EK with
    | false =>
     go_wp2_with fail
     refine (HS.out _).mono ?_
     rintro e w' ⟨rfl, rfl⟩
     by_cases hz : ex.length = 0
     ·have HV : Hid (lineB ⟨k, ⟨#[]⟩, gs, ex⟩ = true) := hid (by rw [HE.out]; show efB (exprK k) ex = true; rw [HEK.out]; exact decide_eq_true hz)
      obtain rfl : ex = [] := List.length_eq_zero_iff.1 hz
      clear hz
      go_wp2
      go_ret
      exact ⟨ret_b HV.out.symm, below_drewN HB0.out q⟩
     ·have HV : Hid (lineB ⟨k, ⟨#[]⟩, gs, ex⟩ = false) := hid (by rw [HE.out]; show efB (exprK k) ex = false; rw [HEK.out]; exact decide_eq_false hz)
      have hz1 : ((ex.length : Int) == 0) = false := beq_eq_false_iff_ne.2 (by omega)
      clear hz
      go_wp2
      go_ret
      exact ⟨ret_b HV.out.symm, below_drewN HB0.out q⟩
    | true =>
     go_wp2_with fail
     refine (HS.out _).mono ?_
     rintro e w' ⟨rfl, rfl⟩
     have HV : Hid (lineB ⟨k, ⟨#[]⟩, gs, ex⟩ = exprB ex) := hid (by rw [HE.out]; show efB (exprK k) ex = exprB ex; rw [HEK.out]; rfl)
     go_wp2_with fail
     refine (s_exprok b d ex _ l4 (HT0.out.drewN q) HN5.out).mono ?_
     rintro e w1 ⟨rfl, b1⟩
     have HB1 : Hid (Below w.heap.size w w1) := hid ((below_drewN HB0.out q).trans (b1.mono (below_drewN HB0.out q).size))
     clear b1
     go_wp2
     go_ret
     exact ⟨ret_b HV.out.symm, HB1.out⟩
   ·have HV : Hid (lineB ⟨k, nm, gs, ex⟩ = false) := hid (NF.out (by rw [HNK.out]; unfold nfB; rw [if_neg (by decide)]; exact decide_eq_false hnm))
    have hem := empty_no nm hnm
    clear hnm hk0' hk1
    go_wp2
    go_ret
    exact ⟨ret_b HV.out.symm, below_drewN HB0.out q⟩
end Go.Proofs.YtaplbefdijcceaaGreatDoor
