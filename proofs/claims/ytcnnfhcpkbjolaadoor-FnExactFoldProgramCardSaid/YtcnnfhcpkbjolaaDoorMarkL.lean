/- Plain facts: The laws' marks: what markText returns; The laws' markStringS; The laws' own functions on rows of tokens: marks; The laws' markLineS: each line's cells and its own rows are marked. Nothing of the program. -/
import Derived.Test.YtcnnfhcpkbjolaaDoorRows
import Derived.Test.YtcnnfhcpkbjolaaDoorPlainR
import Derived.Maps.AppendAt
import Derived.Outline
import Derived.Lib.Hide
import Derived.WalkSmall
import Derived.Deep.QuietTactic
import Derived.BigQuiet
import Derived.Deep.RegionHeld3
import Derived.Deep.Cut
/-! The laws' marks: what markText returns -/
namespace Go.Proofs.YtcnnfhcpkbjolaaDoor
open Go.RowKit Go.Lib

set_option maxHeartbeats 400000 in
theorem l_mark (ni : Int) (n : Nat) (w : World) (hni : ni = n) (h0 : 0 < n) (h1 : n ≤ 9000000) : Calls Tryd.prog 41 #[.int .i64 ni] w fun e w' => e = .returned (.string (mkT n)) ∧ Below w.heap.size w w' := by
  subst hni
  have hz : decide ((n : Int) ≤ 0) = false := by simp; omega
  have HF : Hid (mkT n = (⟨#[109]⟩ : ByteArray) ++ ⟨(restD n).toArray⟩) := Lib.hid (by rw [restD_pos _ h0]; exact bl_eq (by simp [mkT, ByteArray.data_append]))
  go_enter Tryd.func41, Tryd.ntmps41
  go_wp2
  clear hz
  go_loopw [0, 3] (fun x s wr => ∃ (m : Nat) (t : ByteArray), x = .int .i64 (m : Int) ∧ s = .string t ∧ m ≤ 9000000 ∧ restD m ++ t.data.toList = restD n ∧ Below w.heap.size w wr)
    (fun x _ _ => (intOf x).toNat)
  case atStart => exact ⟨n, ⟨#[]⟩, rfl, rfl, h1, by simp, Below.refl _ _⟩
  case round =>
    obtain ⟨m, t, rfl, rfl, hm, hr, hbel⟩ := hrel
    have HR := Lib.hid hr; clear hr
    have hts := rest_size HR.out (by omega)
    by_cases hm0 : 0 < m
    · have hB := hbel.size
      have hcv := run_convert_bytes_back (P := Tryd.prog) (wr.alloc (.cells #[.int .u8 (figB (m % 10)).toNat] 5)) 22 9 5 ⟨wr.heap.size, 0, none⟩ 1 [figB (m % 10)] Tryd.underlying22 Tryd.underlying5 Tryd.underlying9
        (fun j hj => by
          have hj0 : j = 0 := by simp at hj; omega
          subst hj0
          exact cell_one_new wr (.int .u8 (figB (m % 10)).toNat) 5 0 _ rfl)
      simp only [List.length_cons, List.length_nil, Nat.zero_add] at hcv
      have hfig : ((figB (m % 10)).toNat : Int) = 48 + (m : Int) % 10 := by rw [figB_toNat _ (by omega)]; unfold figN; rw [if_pos (by omega)]; omega
      rw [hfig] at hcv
      have HN := Lib.hid (rest_next HR.out hm0)
      clear hfig
      go_wp2
      go_roundw
      case rel => exact ⟨m / 10, _, by go_num, rfl, by omega, HN.out, hbel.alloc hB _⟩
      case measure => simp [intOf]; omega
    · have hm00 : m = 0 := by omega
      subst hm00
      go_wp2
      go_ret
      exact ⟨ret_str (by rw [HF.out, ← HR.out]; simp [restD, ByteArray.data_append]), hbel⟩

end Go.Proofs.YtcnnfhcpkbjolaaDoor

/-! The laws' markStringS -/
namespace Go.Proofs.YtcnnfhcpkbjolaaDoor
open Go.RowKit Go.Lib

set_option maxHeartbeats 400000 in
theorem l_markStrs (a : Option Addr) (c : Nat) (l : List ByteArray) (m B : Nat) (w : World) (hown : w.ownsRow B 9 1 (.slice a l.length c) l.length (strV l)) (hB : B ≤ w.heap.size) (hl : l.length ≤ 1048576) (h0 : 0 < m) (h1 : m ≤ 5000000) :
    Calls Tryd.prog 42 #[.slice a l.length c, .int .i64 (m : Int)] w fun e w' => e = .returned (.int .i64 ((m + l.length : Nat) : Int)) ∧ w'.ownsRow B 9 1 (.slice a l.length c) l.length (strV (mks m l.length)) ∧ w.grownBy w' (Value.slice a l.length c).ownBlock := by
  have HO := Lib.hid hown
  clear hown
  go_enter Tryd.func42, Tryd.ntmps42
  go_wp2_with fail
  go_loopw [1, 5] (fun x i wr => ∃ k : Nat, k ≤ l.length ∧ i = .int .i64 (k : Int) ∧ x = .int .i64 ((m + k : Nat) : Int) ∧ wr.ownsRow B 9 1 (.slice a l.length c) l.length (strV (half m k l)) ∧ w.grownBy wr (Value.slice a l.length c).ownBlock) (fun _ i _ => l.length - (intOf i).toNat)
  case atStart => exact ⟨0, Nat.zero_le _, rfl, rfl, by rw [half_zero]; exact HO.out, World.grownBy.refl _ _⟩
  case round =>
    obtain ⟨k, hk, rfl, rfl, hown, hg⟩ := hrel
    have HOW := Lib.hid hown
    have HG := Lib.hid hg
    have hsz := hg.size
    clear hown hg
    by_cases hlt : k < l.length
    · obtain ⟨g, cap, cur, he, hgB, hgw, _⟩ : ∃ g cap cur, Value.slice a l.length c = .slice (some ⟨g, 0, none⟩) l.length cap ∧ B ≤ g ∧ wr.heap[g]? = some (.cells cur 9 (0, 0)) ∧ True := by
        rcases HOW.out.2 with ⟨_, h0⟩ | ⟨g, cap, cur, he, h1, h2, _⟩
        · omega
        · exact ⟨g, cap, cur, he, h1, h2, trivial⟩
      injection he with ha _ hc
      subst ha hc
      have hgl : g < wr.heap.size := by
        rcases Nat.lt_or_ge g wr.heap.size with h | h
        · exact h
        · rw [Array.getElem?_eq_none h] at hgw; cases hgw
      clear hgw
      go_wp2_with fail
      refine (l_mark _ (m + k) _ (by omega) (by omega) (by omega)).mono ?_
      rintro e w1 ⟨rfl, b1⟩
      have HO1 : Hid (w1.ownsRow B 9 1 (.slice (some ⟨g, 0, none⟩) l.length c) l.length (strV (half m k l))) := Lib.hid (HOW.out.kept (row := none) ⟨b1.os, b1.tape, b1.output, b1.size, fun j hj _ => b1.block j hj⟩ (.inr (by simp [Value.ownBlock])))
      have hcl := HO1.out.cellAt k (by omega)
      have hkh : k < (half m k l).length := by rw [half_length _ _ _ hk]; exact hlt
      obtain ⟨y, hcell⟩ : ∃ y, w1.cell? ⟨g, k, none⟩ = some (.string y) := ⟨_, by rw [hcl]; simp [strV, hkh]; rfl⟩
      have hfr := HO1.out.frozenAt k
      have S := HO1.out.stored k (.string (mkT (m + k)))
      have HS : Hid ((w1.setCell ⟨g, k, none⟩ (.string (mkT (m + k)))).ownsRow B 9 1 (.slice (some ⟨g, 0, none⟩) l.length c) l.length (strV (half m (k + 1) l))) := Lib.hid (by
        have := S.1; rw [strV_set, half_set m k l hlt] at this; exact this)
      have HG1 : Hid (w.grownBy (w1.setCell ⟨g, k, none⟩ (.string (mkT (m + k)))) (some g)) := Lib.hid (World.grownBy.trans (World.grownBy.trans HG.out ⟨b1.os, b1.tape, b1.output, b1.size, fun j hj _ => b1.block j hj⟩) S.2)
      have k0 : (0 : Int) ≤ (k : Int) := by omega
      have k1 : (k : Int) < (l.length : Int) := by omega
      clear hcl hkh S b1
      generalize mkT (m + k) = x at *
      go_wp2
      go_roundw
      case rel => exact ⟨k + 1, by omega, by go_num, by go_num, HS.out, HG1.out⟩
      case measure => simp [intOf]; omega
    · have hkk : k = l.length := by omega
      subst hkk
      go_wp2
      go_ret
      exact ⟨rfl, by have := HOW.out; rw [half_all] at this; exact this, HG.out⟩

end Go.Proofs.YtcnnfhcpkbjolaaDoor

/-! The laws' own functions on rows of tokens: marks -/
namespace Go.Proofs.YtcnnfhcpkbjolaaDoor
open Go.RowKit Go.Lib

set_option maxHeartbeats 1000000 in
theorem l_markToks (a : Option Addr) (c n : Nat) (xs : List Value) (m B : Nat) (w : World) (hown : w.ownsRow B 83 3 (.slice a n c) n xs) (hB : B ≤ w.heap.size) (hl : n ≤ 1048576) (h0 : 0 < m) (h1 : m ≤ 5000000) :
    Calls Tryd.prog 43 #[.slice a n c, .int .i64 (m : Int)] w fun e w' => e = .returned (.int .i64 ((m + 3 * n : Nat) : Int)) ∧ w'.ownsRow B 83 3 (.slice a n c) n (toksV (mkTs m n)) ∧ w.grownBy w' (Value.slice a n c).ownBlock := by
  have HO := Lib.hid hown
  clear hown
  go_enter Tryd.func43, Tryd.ntmps43
  go_wp2_with fail
  go_loopw [1, 5] (fun x i wr => ∃ (k : Nat) (R : List Value), k ≤ n ∧ i = .int .i64 (k : Int) ∧ x = .int .i64 ((m + 3 * k : Nat) : Int) ∧ R.length = (n - k) * 3 ∧ wr.ownsRow B 83 3 (.slice a n c) n (headT k (mkTs m n) R) ∧ w.grownBy wr (Value.slice a n c).ownBlock) (fun _ i _ => n - (intOf i).toNat)
  case atStart => exact ⟨0, xs, Nat.zero_le _, rfl, rfl, by simpa using HO.out.1, HO.out, World.grownBy.refl _ _⟩
  case round =>
    obtain ⟨k, R, hk, rfl, rfl, hR, hown, hg⟩ := hrel
    have HOW := Lib.hid hown
    have HG := Lib.hid hg
    have hsz := hg.size
    clear hown hg
    by_cases hlt : k < n
    · obtain ⟨g, cap, cur, he, hgB, hgw⟩ : ∃ g cap cur, Value.slice a n c = .slice (some ⟨g, 0, none⟩) n cap ∧ B ≤ g ∧ wr.heap[g]? = some (.cells cur 83 (0, 0)) := by
        rcases HOW.out.2 with ⟨_, h0⟩ | ⟨g, cap, cur, he, h1, h2, _⟩
        · omega
        · exact ⟨g, cap, cur, he, h1, h2⟩
      injection he with ha _ hc
      subst ha hc
      clear hgw
      obtain ⟨y0, y1, y2, R', hRe, hR'⟩ := three R (n - (k + 1)) (by rw [hR]; congr 1; omega)
      subst hRe
      have HR' := Lib.hid hR'
      have hkl : k < (mkTs m n).length := by rw [mkTs_length]; exact hlt
      have HS := Lib.hid (headT_set k (mkTs m n) hkl y0 y1 y2 R')
      rw [mkTs_get] at HS
      have hlen : (headT k (mkTs m n) (y0 :: y1 :: y2 :: R')).length = n * 3 := HOW.out.1
      have cellk : ∀ i, i < 3 → ∃ y, wr.cell? ⟨g, k * 3 + i, none⟩ = some y := fun i hi => by
        have := HOW.out.cellAt (k * 3 + i) (by omega)
        rw [this]
        exact ⟨_, List.getElem?_eq_getElem (by omega)⟩
      obtain ⟨z0, e0⟩ := cellk 0 (by omega)
      rw [Nat.add_zero] at e0
      obtain ⟨z1, e1⟩ := cellk 1 (by omega)
      have fr := HOW.out.frozenAt
      have S1 := HOW.out.stored (k * 3) (.int .i64 ((m + 3 * k : Nat) : Int))
      have S2 := S1.1.stored (k * 3 + 1) (.int .i64 ((m + 3 * k + 1 : Nat) : Int))
      rw [show ((m + 3 * k : Nat) : Int) = (m : Int) + 3 * (k : Int) from by omega] at S1 S2
      rw [show ((m + 3 * k + 1 : Nat) : Int) = (m : Int) + 3 * (k : Int) + 1 from by omega] at S2
      have HO2 := Lib.hid S2.1
      have HG2 := Lib.hid ((HG.out.trans S1.2).trans S2.2)
      have k0 : (0 : Int) ≤ (k : Int) := by omega
      have k1 : (k : Int) < (n : Int) := by omega
      clear cellk hlen S1 S2 hR hR' hkl
      go_wp2_with fail
      refine (l_mark _ (m + 3 * k + 2) _ (by omega) (by omega) (by omega)).mono ?_
      rintro e w1 ⟨rfl, b1⟩
      have HO3 := Lib.hid (owns3_below HO2.out b1)
      have HG3 := Lib.hid (HG2.out.trans (grown_of_below b1 _))
      clear b1 e0 e1 fr
      have hlen : _ = n * 3 := HO3.out.1
      obtain ⟨z2, e2⟩ : ∃ y, w1.cell? ⟨g, k * 3 + 2, none⟩ = some y := by
        rw [HO3.out.cellAt (k * 3 + 2) (by omega)]
        exact ⟨_, List.getElem?_eq_getElem (by omega)⟩
      have fr := HO3.out.frozenAt
      have S3 := HO3.out.stored (k * 3 + 2) (.string (mkT (m + 3 * k + 2)))
      have HE : Hid ((((headT k (mkTs m n) (y0 :: y1 :: y2 :: R')).set (k * 3) (.int .i64 ((m : Int) + 3 * (k : Int)))).set (k * 3 + 1) (.int .i64 ((m : Int) + 3 * (k : Int) + 1))).set (k * 3 + 2) (.string (mkT (m + 3 * k + 2))) = headT (k + 1) (mkTs m n) R') := Lib.hid (by
        have := HS.out
        simp only [mkTok] at this
        rw [show ((m + 3 * k : Nat) : Int) = (m : Int) + 3 * (k : Int) from by omega, show ((m + 3 * k + 1 : Nat) : Int) = (m : Int) + 3 * (k : Int) + 1 from by omega] at this
        exact this)
      have HO4 := Lib.hid (HE.out ▸ S3.1)
      have HG4 := Lib.hid (HG3.out.trans S3.2)
      clear hlen S3
      go_wp2
      go_roundw
      case rel => exact ⟨k + 1, R', by omega, by go_num, by go_num, HR'.out, HO4.out, HG4.out⟩
      case measure => simp [intOf]; omega
    · have hkk : k = n := by omega
      subst hkk
      have hR0 : R = [] := List.length_eq_zero_iff.1 (by rw [hR]; simp)
      subst hR0
      go_wp2
      go_ret
      exact ⟨rfl, by have := HOW.out; unfold headT at this; rw [List.take_of_length_le (by rw [mkTs_length]; exact Nat.le_refl _), List.append_nil] at this; exact this, HG.out⟩
end Go.Proofs.YtcnnfhcpkbjolaaDoor

/-! The laws' markLineS: each line's cells and its own rows are marked -/
namespace Go.Proofs.YtcnnfhcpkbjolaaDoor
open Go.RowKit Go.Lib

theorem mkN_app (A R : List LnL) (m : Nat) : mkN m A ≤ mkN m (A ++ R) := by
  have : mkN m (A ++ R) = mkN (mkN m A) R := by simp [mkN]
  rw [this]
  exact mkN_ge R _
theorem made_own {TS TK : TypeId} {B : Nat} {w : World} {A R : List LnL} {x : LnL} (h : Made TS TK B w (A ++ x :: R)) : w.ownsRow B TS 1 x.va x.args.length (strV x.args) ∧ w.ownsRow B TK 3 x.ve x.expr.length (toksV x.expr) :=
  h.1 x (List.mem_append_right _ (List.mem_cons_self ..))
theorem own_typM {B T n s : Nat} {w : World} {v : Value} {xs : List Value} (h : w.ownsRow B T s v n xs) (g : Nat) (hg : v.ownBlock = some g) : ∃ cs, w.heap[g]? = some (.cells cs T (0, 0)) := by
  rcases h.2 with ⟨rfl, _⟩ | ⟨g', cap, cur, rfl, _, hh, _⟩
  · cases hg
  · injection hg with hg
    subst hg
    exact ⟨_, hh⟩
theorem mkX_step (A R : List LnL) (x : LnL) : mkX 1 (A ++ [x]) ++ R = mkX 1 A ++ mk1 (mkN 1 A) x :: R := by
  rw [mkX_snoc, List.append_assoc]
  rfl

set_option maxRecDepth 100000 in
set_option maxHeartbeats 4000000 in
theorem l_markLineS (a : Option Addr) (c : Nat) (X : List LnL) (B : Nat) (w : World) (hown : w.ownsRow B 48 4 (.slice a X.length c) X.length (lnsV X)) (hM : Made 9 83 B w X) (hB : B ≤ w.heap.size) (hl : X.length ≤ 1048576) (hz : ∀ x ∈ X, x.args.length ≤ 1048576 ∧ x.expr.length ≤ 1048576) (hN : mkN 1 X ≤ 4000000) :
    Calls Tryd.prog 19 #[.slice a X.length c, .int .i64 1] w fun e w' => e = .returned (.int .i64 ((mkN 1 X : Nat) : Int)) ∧ w'.ownsRow B 48 4 (.slice a X.length c) X.length (lnsV (mkX 1 X)) ∧ Made 9 83 B w' (mkX 1 X) ∧ Below B w w' ∧
      ∀ j, j < w.heap.size → (Value.slice a X.length c).ownBlock ≠ some j → (∀ x ∈ X, ¬ x.has j) → w'.heap[j]? = w.heap[j]? := by
  have HO := Lib.hid hown
  have HM := Lib.hid hM
  have HZ := Lib.hid hz
  have HN := Lib.hid hN
  clear hown hM hz hN
  go_enter Tryd.func19, Tryd.ntmps19
  go_wp2_with fail
  go_loopw [1, 5] (fun x i wr => ∃ (A R : List LnL) (k m : Nat), Hid (X = A ++ R) ∧ Hid (A.length = k) ∧ Hid (mkN 1 A = m) ∧ i = .int .i64 (k : Int) ∧ x = .int .i64 (m : Int) ∧ wr.ownsRow B 48 4 (.slice a X.length c) X.length (lnsV (mkX 1 A ++ R)) ∧ Made 9 83 B wr (mkX 1 A ++ R) ∧ Below B w wr ∧ Hid (∀ j, j < w.heap.size → (Value.slice a X.length c).ownBlock ≠ some j → (∀ x ∈ X, ¬ x.has j) → wr.heap[j]? = w.heap[j]?)) (fun _ i _ => X.length - (RowKit.intOf i).toNat)
  case atStart => exact ⟨[], X, 0, 1, Lib.hid rfl, Lib.hid rfl, Lib.hid rfl, rfl, rfl, HO.out, HM.out, Below.refl _ _, Lib.hid (fun _ _ _ _ => rfl)⟩
  case round =>
    obtain ⟨A, R, k, m, HX, HK, HMK, rfl, rfl, hown, hmade, hbel, HKP⟩ := hrel
    have HOW := Lib.hid hown
    have HMA := Lib.hid hmade
    have HBE := Lib.hid hbel
    have hsz := hbel.size
    clear hown hmade hbel
    have hlen : k + R.length = X.length := by rw [HX.out, List.length_append, HK.out]
    cases R with
    | nil =>
      have hkk : k = X.length := by simpa using hlen
      have hXA : X = A := by simpa using HX.out
      have HF : Hid (mkN 1 X = m ∧ mkX 1 A ++ [] = mkX 1 X) := Lib.hid ⟨by rw [hXA]; exact HMK.out, by rw [List.append_nil, hXA]⟩
      clear hXA hlen
      subst hkk
      go_wp2
      go_ret
      exact ⟨by rw [HF.out.1]; rfl, by rw [← HF.out.2]; exact HOW.out, by rw [← HF.out.2]; exact HMA.out, HBE.out, HKP.out⟩
    | cons x R =>
      have hlt : k < X.length := by rw [List.length_cons] at hlen; omega
      have HNx : Hid (nxt m x ≤ 4000000) := Lib.hid (by
        have h1 := mkN_app (A ++ [x]) R 1
        rw [mkN_snoc, HMK.out, List.append_assoc, List.singleton_append, ← HX.out] at h1
        exact Nat.le_trans h1 HN.out)
      have hm0 : 0 < m := by have := mkN_ge A 1; rw [HMK.out] at this; omega
      have hzz := HZ.out x (by rw [HX.out]; exact List.mem_append_right _ (List.mem_cons_self ..))
      have hm1 : m + 2 + x.args.length + 3 * x.expr.length ≤ 4000000 := HNx.out
      obtain ⟨xa, xc, ea⟩ := owns_shape (made_own HMA.out).1
      obtain ⟨xb, xd, ee⟩ := owns3_shape (made_own HMA.out).2
      have HLE : Hid ((mkX 1 A).length = k) := Lib.hid (by rw [mkX_length]; exact HK.out)
      obtain ⟨g, he, hgB, hgw⟩ : ∃ g, a = some ⟨g, 0, none⟩ ∧ B ≤ g ∧ g < wr.heap.size := by
        rcases HOW.out.2 with ⟨_, h0⟩ | ⟨g, cap, cur, he, h1, h2, _⟩
        · omega
        · injection he with he
          exact ⟨g, he, h1, (blk h2).2.2⟩
      subst he
      have hrl : (mkX 1 A ++ x :: R).length = X.length := by rw [List.length_append, HLE.out]; exact hlen
      have cellk : ∀ i v, i < 4 → (lnV x)[i]? = some v → wr.cell? ⟨g, k * 4 + i, none⟩ = some v := fun i v hi hv => by
        rw [HOW.out.cellAt (k * 4 + i) (by omega), lnsV_get _ k i (by omega) hi]
        have : (mkX 1 A ++ x :: R)[k]'(by omega) = x := by
          rw [List.getElem_append_right (by rw [HLE.out]; exact Nat.le_refl _)]
          simp [HLE.out]
        rw [this]; exact hv
      have e0 : wr.cell? ⟨g, k * 4, none⟩ = some (.int .i64 x.kind) := cellk 0 _ (by omega) rfl
      have fr := HOW.out.frozenAt
      have S1 := HOW.out.stored (k * 4) (.int .i64 (m : Int))
      have HO1 := Lib.hid S1.1
      have HM1 : Hid (Made 9 83 B (wr.setCell ⟨g, k * 4, none⟩ (.int .i64 (m : Int))) (mkX 1 A ++ x :: R)) := Lib.hid (HMA.out.grown S1.2 (fun j hj => .inr (own_typM HOW.out j (by rw [← hj]; rfl))) (by decide) (by decide))
      have HB1 : Hid (Below B w (wr.setCell ⟨g, k * 4, none⟩ (.int .i64 (m : Int)))) := Lib.hid (HBE.out.grown S1.2 (by omega) (fun j hj => by injection hj with e; omega))
      have HT := Lib.hid (fun W (n : Int) (hn : n = ((m + 1 : Nat) : Int)) => l_mark n (m + 1) W hn (by omega) (by omega))
      have k0 : (0 : Int) ≤ (k : Int) := by omega
      have k1 : (k : Int) < (X.length : Int) := by omega
      have hsz1 : (wr.setCell ⟨g, k * 4, none⟩ (.int .i64 (m : Int))).heap.size = wr.heap.size := by simp [World.setCell]
      have HK1 : Hid (∀ j, j < wr.heap.size → g ≠ j → (wr.setCell ⟨g, k * 4, none⟩ (.int .i64 (m : Int))).heap[j]? = wr.heap[j]?) := Lib.hid (fun j hj hne => S1.2.block j hj (fun e => hne (Option.some.inj e).symm))
      obtain ⟨s, hs⟩ : ∃ s, mkT (m + 1) = s := ⟨_, rfl⟩
      rw [hs] at HT
      have HS := Lib.hid hs
      clear hs cellk S1
      go_wp2_with fail
      refine (HT.out _ _ (by omega)).mono ?_
      rintro e w1 ⟨rfl, b1⟩
      have HO2 := Lib.hid (owns3_below HO1.out b1)
      have HM2 := Lib.hid (HM1.out.below b1)
      have HB2 := Lib.hid (HB1.out.trans (b1.mono (by rw [hsz1]; omega)))
      have HK2 : Hid (∀ j, j < wr.heap.size → g ≠ j → w1.heap[j]? = wr.heap[j]?) := Lib.hid (fun j hj hne => (b1.block j (by rw [hsz1]; exact hj)).trans (HK1.out j hj hne))
      have z1 := b1.size
      rw [hsz1] at z1
      clear b1 e0 fr
      have hl2 : ((lnsV (mkX 1 A ++ x :: R)).set (k * 4) (.int .i64 (m : Int))).length = X.length * 4 := HO2.out.1
      obtain ⟨z, e1⟩ : ∃ y, w1.cell? ⟨g, k * 4 + 1, none⟩ = some y := by
        rw [HO2.out.cellAt (k * 4 + 1) (by omega)]
        exact ⟨_, List.getElem?_eq_getElem (by omega)⟩
      have fr := HO2.out.frozenAt
      have S2 := HO2.out.stored (k * 4 + 1) (.string s)
      have HSS : Hid (((lnsV (mkX 1 A ++ x :: R)).set (k * 4) (.int .i64 (m : Int))).set (k * 4 + 1) (.string s) = lnsV (mkX 1 A ++ ⟨(m : Int), s, x.args, x.expr, x.va, x.ve⟩ :: R)) := Lib.hid (by
        rw [← HLE.out]; exact lnsV_set2 _ _ _ _ _)
      have HO3 := Lib.hid (HSS.out ▸ S2.1)
      have HM3 : Hid (Made 9 83 B (w1.setCell ⟨g, k * 4 + 1, none⟩ (.string s)) (mkX 1 A ++ ⟨(m : Int), s, x.args, x.expr, x.va, x.ve⟩ :: R)) := Lib.hid (by
        have h := HM2.out.grown S2.2 (fun j hj => .inr (own_typM HO2.out j (by rw [← hj]; rfl))) (by decide) (by decide)
        exact h.put (World.grownBy.refl _ _) (r := none) (fun j hj => by cases hj) rfl rfl (made_own h).1 (made_own h).2)
      have HB3 := Lib.hid (HB2.out.grown S2.2 (by omega) (fun j hj => by injection hj with e; omega))
      have HK3 : Hid (∀ j, j < wr.heap.size → g ≠ j → (w1.setCell ⟨g, k * 4 + 1, none⟩ (.string s)).heap[j]? = wr.heap[j]?) := Lib.hid (fun j hj hne => (S2.2.block j (by omega) (fun e => hne (Option.some.inj e).symm)).trans (HK2.out j hj hne))
      obtain ⟨W2, hW2⟩ : ∃ W, w1.setCell ⟨g, k * 4 + 1, none⟩ (.string s) = W := ⟨_, rfl⟩
      have hz2 : W2.heap.size = w1.heap.size := by rw [← hW2]; simp [World.setCell]
      rw [hW2] at HO3 HM3 HB3 HK3
      have HW2 := Lib.hid hW2
      have hrl3 : (mkX 1 A ++ ⟨(m : Int), s, x.args, x.expr, x.va, x.ve⟩ :: R).length = X.length := by rw [List.length_append, HLE.out]; exact hlen
      have cell3 : ∀ i v, i < 4 → (lnV ⟨(m : Int), s, x.args, x.expr, x.va, x.ve⟩)[i]? = some v → W2.cell? ⟨g, k * 4 + i, none⟩ = some v := fun i v hi hv => by
        rw [HO3.out.cellAt (k * 4 + i) (by omega), lnsV_get _ k i (by omega) hi]
        have : (mkX 1 A ++ ⟨(m : Int), s, x.args, x.expr, x.va, x.ve⟩ :: R)[k]'(by omega) = ⟨(m : Int), s, x.args, x.expr, x.va, x.ve⟩ := by
          rw [List.getElem_append_right (by rw [HLE.out]; exact Nat.le_refl _)]
          simp [HLE.out]
        rw [this]; exact hv
      have e2 : W2.cell? ⟨g, k * 4 + 2, none⟩ = some (.slice xa x.args.length xc) := cell3 2 _ (by omega) (by rw [← ea]; rfl)
      have HMS := Lib.hid (fun (n : Int) (hn : n = ((m + 2 : Nat) : Int)) => show Calls Tryd.prog 42 #[.slice xa x.args.length xc, .int .i64 n] W2 _ from hn ▸ l_markStrs xa xc x.args (m + 2) B W2 (by have := (made_own HM3.out).1; rw [← ea]; exact this) (by omega) (by omega) (by omega) (by omega))
      clear cell3 S2 hW2 hl2
      go_upto_region 8 with fail
      rw [HW2.out]
      clear e1 fr
      go_wp2_with fail
      refine (HMS.out _ (by omega)).mono ?_
      rintro e w3 ⟨rfl, O3, g3⟩
      have z3 := g3.size
      have HO4 := Lib.hid (owns_other HO3.out g3 (fun j hj => .inr (by
        obtain ⟨cs, h⟩ := own_typM (made_own HM3.out).1 j (by rw [ea]; exact hj)
        exact ⟨cs, _, h, by decide⟩)))
      have HM4 : Hid (Made 9 83 B w3 (mkX 1 A ++ ⟨(m : Int), s, mks (m + 2) x.args.length, x.expr, x.va, x.ve⟩ :: R)) := Lib.hid (HM3.out.put (x' := ⟨(m : Int), s, mks (m + 2) x.args.length, x.expr, x.va, x.ve⟩) g3 (fun j hj => .inl (by rw [← hj]; exact congrArg Value.ownBlock ea)) rfl rfl
        (by dsimp only; rw [mks_length, ea]; exact O3)
        (owns_other (made_own HM3.out).2 g3 (fun j hj => .inr (by
          obtain ⟨cs, h⟩ := own_typM (made_own HM3.out).1 j (by rw [ea]; exact hj)
          exact ⟨cs, _, h, by decide⟩))))
      have HB4 := Lib.hid (HB3.out.grown g3 (by omega) (fun j hj => ((made_own HM3.out).1.lt j (by rw [ea]; exact hj)).1))
      have HK4 : Hid (∀ j, j < wr.heap.size → g ≠ j → ¬ x.has j → w3.heap[j]? = wr.heap[j]?) := Lib.hid (fun j hj hne hx => (g3.block j (by omega) (fun e => hx (.inl ((congrArg Value.ownBlock ea).trans e.symm)))).trans (HK3.out j hj hne))
      have hl4 : (lnsV (mkX 1 A ++ ⟨(m : Int), s, x.args, x.expr, x.va, x.ve⟩ :: R)).length = X.length * 4 := HO4.out.1
      have e3 : w3.cell? ⟨g, k * 4 + 3, none⟩ = some (.slice xb x.expr.length xd) := by
        rw [HO4.out.cellAt (k * 4 + 3) (by omega), lnsV_get _ k 3 (by omega) (by omega)]
        have : (mkX 1 A ++ ⟨(m : Int), s, x.args, x.expr, x.va, x.ve⟩ :: R)[k]'(by omega) = ⟨(m : Int), s, x.args, x.expr, x.va, x.ve⟩ := by
          rw [List.getElem_append_right (by rw [HLE.out]; exact Nat.le_refl _)]
          simp [HLE.out]
        rw [this, ← ee]; rfl
      have HMT := Lib.hid (show Calls Tryd.prog 43 #[.slice xb x.expr.length xd, .int .i64 ((m + 2 + x.args.length : Nat) : Int)] w3 _ from l_markToks xb xd x.expr.length (toksV x.expr) (m + 2 + x.args.length) B w3 (by have := (made_own HM4.out).2; rw [← ee]; exact this) (by omega) (by omega) (by omega) (by omega))
      clear O3 g3 e2 hl4
      go_wp2_with fail
      refine HMT.out.mono ?_
      rintro e w4 ⟨rfl, O4, g4⟩
      have z4 := g4.size
      have HO5 := Lib.hid (owns_other HO4.out g4 (fun j hj => .inr (by
        obtain ⟨cs, h⟩ := own_typM (made_own HM4.out).2 j (by rw [ee]; exact hj)
        exact ⟨cs, _, h, by decide⟩)))
      have HM5 : Hid (Made 9 83 B w4 (mkX 1 A ++ mk1 m x :: R)) := Lib.hid (HM4.out.put (x' := mk1 m x) g4 (fun j hj => .inr (by rw [← hj]; exact congrArg Value.ownBlock ee)) rfl rfl
        (owns_other (made_own HM4.out).1 g4 (fun j hj => .inr (by
          obtain ⟨cs, h⟩ := own_typM (made_own HM4.out).2 j (by rw [ee]; exact hj)
          exact ⟨cs, _, h, by decide⟩)))
        (by show w4.ownsRow B 83 3 x.ve (mkTs (m + 2 + x.args.length) x.expr.length).length (toksV (mkTs (m + 2 + x.args.length) x.expr.length)); rw [mkTs_length, ee]; exact O4))
      have HB5 := Lib.hid (HB4.out.grown g4 (by omega) (fun j hj => ((made_own HM4.out).2.lt j (by rw [ee]; exact hj)).1))
      have HK5 : Hid (∀ j, j < w.heap.size → (Value.slice (some ⟨g, 0, none⟩) X.length c).ownBlock ≠ some j → (∀ x ∈ X, ¬ x.has j) → w4.heap[j]? = w.heap[j]?) := Lib.hid (fun j hj hne hxx => by
        have hxj : ¬ x.has j := hxx x (by rw [HX.out]; exact List.mem_append_right _ (List.mem_cons_self ..))
        have hgj : g ≠ j := fun e => hne (by rw [← e]; rfl)
        exact ((g4.block j (by omega) (fun e => hxj (.inr ((congrArg Value.ownBlock ee).trans e.symm)))).trans (HK4.out j (by omega) hgj hxj)).trans (HKP.out j hj hne hxx))
      have HST : Hid (mkX 1 (A ++ [x]) ++ R = mkX 1 A ++ mk1 m x :: R) := Lib.hid (by rw [← HMK.out]; exact mkX_step A R x)
      have HO6 : Hid (w4.ownsRow B 48 4 (.slice (some ⟨g, 0, none⟩) X.length c) X.length (lnsV (mkX 1 A ++ mk1 m x :: R))) := Lib.hid (by
        have e : lnsV (mkX 1 A ++ mk1 m x :: R) = lnsV (mkX 1 A ++ ⟨(m : Int), s, x.args, x.expr, x.va, x.ve⟩ :: R) := by
          rw [← HS.out, lnsV_append, lnsV_append]; rfl
        rw [e]; exact HO5.out)
      clear O4 g4 e3
      go_wp2
      go_roundw
      case rel => exact ⟨A ++ [x], R, k + 1, nxt m x, Lib.hid (by rw [HX.out, List.append_assoc]; rfl), Lib.hid (by rw [List.length_append, HK.out]; rfl), Lib.hid (by rw [mkN_snoc, HMK.out]), by go_num, by unfold nxt; go_num, by rw [HST.out]; exact HO6.out, by rw [HST.out]; exact HM5.out, HB5.out, HK5⟩
      case measure => simp [RowKit.intOf]; omega
end Go.Proofs.YtcnnfhcpkbjolaaDoor
