/- What the model's function that draws a line returns: some line, of at most 2000 bytes. -/
import Derived.Test.YthppmncndindiaaDoorDrawPick
namespace Go.Proofs.YthppmncndindiaaDoor
open Go.RowKit Go.Lib

theorem grown_below {w w' : World} (h : Below w.heap.size w w') (r : Option Nat) : w.grownBy w' r := ⟨h.os, h.tape, h.output, h.size, fun k hk _ => h.block k hk⟩

/-- A line was drawn by a call of its own. -/
def OneLine (m : Nat) (w : World) (e : Ending) (w' : World) : Prop :=
  ∃ t : ByteArray, e = .returned (.string t) ∧ t.size ≤ m ∧ Below w.heap.size w w'

abbrev endsL : List ByteArray := [⟨#[32]⟩, ⟨#[32, 32]⟩, ⟨#[9]⟩, ⟨#[10]⟩, ⟨#[127]⟩, ⟨#[233]⟩]

set_option maxRecDepth 100000 in
set_option maxHeartbeats 1000000 in
/-- Behind the loops: an ending. -/
theorem d_line (a : Option Addr) (len cap : Nat) (z : List Int) (w : World) (H : IsRow .u8 w a len cap z) (hl : len ≤ 1048576) :
    Calls Tryd.prog 15 #[.slice a len cap] w (OneLine 2000 w) := by
  have HC := Lib.hid H
  clear H
  go_enter Tryd.func15, Tryd.ntmps15
  go_wp2_with fail
  refine (d_new a len cap z _ HC.out hl).mono ?_
  rintro e w1 ⟨c, rfl, hc0, hc1, H1, B1⟩
  have K1 := Lib.hid H1; have L1 := Lib.hid B1
  clear H1 B1
  go_wp2_with fail
  refine (d_below c a len cap z 9 _ K1.out (by omega) (by omega)).mono ?_
  rintro e w2 ⟨x, x0, x1, rfl, H2, G2⟩
  have K2 := Lib.hid H2; have L2 := Lib.hid G2
  clear H2 G2
  go_wp2_with fail
  refine (d_once c a len cap z 15 _ K2.out (by omega) (by omega)).mono ?_
  rintro e w3 ⟨t, rfl, H3, G3⟩
  have K3 := Lib.hid H3; have L3 := Lib.hid (L2.out.trans G3)
  clear H3 G3
  have hs1 := L1.out.size
  have fin : ∀ w', w1.grownBy w' (some c) → Below w.heap.size w w' := fun w' hg => L1.out.grown hg hs1 (fun k hk => by injection hk with hk; omega)
  have FIN := Lib.hid fin
  clear fin
  cases t
  case' true =>
    go_wp2_with fail
    refine (d_below c a len cap z 2 _ K3.out (by omega) (by omega)).mono ?_
    rintro e w3 ⟨y, y0, y1, rfl, H4, G4⟩
    have L3 := Lib.hid (L3.out.trans G4)
    have K3 := Lib.hid H4
    clear H4 G4
    go_wp2_with fail
    have hN : 0 ≤ 24 + y ∧ 24 + y ≤ 25 := by omega
    generalize 24 + y = n at hN ⊢
  case' false =>
    go_wp2_with fail
    have hN : 0 ≤ x ∧ x ≤ 25 := by omega
    generalize x = n at hN ⊢
  all_goals
    go_loopw [5, 6, 7] (fun sv i _ wr => ∃ (k : Nat) (t : ByteArray), k ≤ 25 ∧ i = .int .i64 (k : Int) ∧ sv = .string t ∧ t.size ≤ 8 * k ∧ CurAt 55 wr c a len cap z ∧ w1.grownBy wr (some c))
      (fun _ i _ _ => 25 - (intOf i).toNat)
    case atStart => exact ⟨0, ⟨#[]⟩, by omega, rfl, rfl, by decide, K3.out, L3.out⟩
    case round =>
      obtain ⟨k, t, hk, rfl, rfl, ht, hcur, hg⟩ := hrel
      have K5 := Lib.hid hcur
      have L5 := Lib.hid hg
      clear hcur hg
      by_cases hlt : (k : Int) < n
      · by_cases hk0 : k = 0
        case' pos =>
          go_wp2_with fail
          refine (d_once c a len cap z 5 _ K5.out (by omega) (by omega)).mono ?_
          rintro e w5 ⟨t2, rfl, H5, G5⟩
          have K5 := Lib.hid H5; have L5 := Lib.hid (L5.out.trans G5)
          clear H5 G5
          cases t2
          case' false =>
            have K8 := K5
            have L8 := L5
            go_wp2_with fail
            have hT : t.size ≤ 8 * k + 3 := by omega
            generalize t = T at hT ⊢
          case' true =>
            go_wp2_with fail
            refine (d_below c a len cap z 2 _ K5.out (by omega) (by omega)).mono ?_
            rintro e w6 ⟨y, y0, y1, rfl, H6, G6⟩
            have K6 := Lib.hid H6; have L6 := Lib.hid (L5.out.trans G6)
            clear H6 G6
            go_wp2_with fail
            refine (d_below c a len cap z 3 _ K6.out (by omega) (by omega)).mono ?_
            rintro e w7 ⟨v, v0, v1, rfl, H7, G7⟩
            have K7 := Lib.hid H7; have L7 := Lib.hid (L6.out.trans G7)
            clear H7 G7
            obtain ⟨v', rfl⟩ := Int.eq_ofNat_of_zero_le v0
            have hy01 : y = 0 ∨ y = 1 := by omega
            rcases hy01 with rfl | rfl
            case' inl =>
              go_wp2_with fail
              refine (d_long _ _ 1 32 _ rfl rfl (by omega)).mono ?_
            case' inr =>
              go_wp2_with fail
              refine (d_long _ _ (1 + v') 32 _ (by omega) rfl (by omega)).mono ?_
            all_goals
              rintro e w8 ⟨u, rfl, hu, B8⟩
              have K8 := Lib.hid (K7.out.kept (row := none) (grown_below B8 none) (by intro q h; cases h))
              have L8 := Lib.hid (L7.out.trans (grown_below B8 _))
              clear B8
              have hT : (t ++ u).size ≤ 8 * k + 3 := by rw [ByteArray.size_append]; omega
              go_wp2_with fail
              generalize t ++ u = T at hT ⊢
        case' neg =>
          go_wp2_with fail
          refine (d_below c a len cap z 2 _ K5.out (by omega) (by omega)).mono ?_
          rintro e w6 ⟨y, y0, y1, rfl, H6, G6⟩
          have K6 := Lib.hid H6; have L6 := Lib.hid (L5.out.trans G6)
          clear H6 G6
          go_wp2_with fail
          refine (d_below c a len cap z 3 _ K6.out (by omega) (by omega)).mono ?_
          rintro e w7 ⟨v, v0, v1, rfl, H7, G7⟩
          have K7 := Lib.hid H7; have L7 := Lib.hid (L6.out.trans G7)
          clear H7 G7
          obtain ⟨v', rfl⟩ := Int.eq_ofNat_of_zero_le v0
          have hy01 : y = 0 ∨ y = 1 := by omega
          rcases hy01 with rfl | rfl
          case' inl =>
            go_wp2_with fail
            refine (d_long _ _ 1 32 _ rfl rfl (by omega)).mono ?_
          case' inr =>
            go_wp2_with fail
            refine (d_long _ _ (1 + v') 32 _ (by omega) rfl (by omega)).mono ?_
          all_goals
            rintro e w8 ⟨u, rfl, hu, B8⟩
            have K8 := Lib.hid (K7.out.kept (row := none) (grown_below B8 none) (by intro q h; cases h))
            have L8 := Lib.hid (L7.out.trans (grown_below B8 _))
            clear B8
            have hT : (t ++ u).size ≤ 8 * k + 3 := by rw [ByteArray.size_append]; omega
            go_wp2_with fail
            generalize t ++ u = T at hT ⊢
        all_goals
          go_loopw [5, 7] (fun sv kv wr' => ∃ (q : Nat) (T' : ByteArray), q ≤ 5 ∧ kv = .int .i64 (q : Int) ∧ sv = .string T' ∧ T'.size ≤ T.size + q ∧ CurAt 55 wr' c a len cap z ∧ w1.grownBy wr' (some c))
            (fun _ kv _ => 5 - (intOf kv).toNat)
          case atStart => exact ⟨0, T, by omega, rfl, rfl, by omega, K8.out, L8.out⟩
          case round =>
            obtain ⟨q, T', hq, rfl, rfl, hT', hcur, hg⟩ := hrel
            have K9 := Lib.hid hcur
            have L9 := Lib.hid hg
            clear hcur hg
            go_wp2_with fail
            refine (d_below c a len cap z 5 _ K9.out (by omega) (by omega)).mono ?_
            rintro e w10 ⟨b, b0, b1, rfl, H10, G10⟩
            have K10 := Lib.hid H10; have L10 := Lib.hid (L9.out.trans G10)
            clear H10 G10
            by_cases hqb : (q : Int) ≤ b
            · go_wp2_with fail
              refine (d_below c a len cap z 94 _ K10.out (by omega) (by omega)).mono ?_
              rintro e w11 ⟨y, y0, y1, rfl, H11, G11⟩
              have K11 := Lib.hid H11; have L11 := Lib.hid (L10.out.trans G11)
              clear H11 G11
              have hcv := conv_one w11 (33 + y) (by omega) (by omega)
              have h1s : (⟨#[UInt8.ofNat (33 + y).toNat]⟩ : ByteArray).size = 1 := rfl
              generalize (⟨#[UInt8.ofNat (33 + y).toNat]⟩ : ByteArray) = one at hcv h1s
              have h1l : one.size ≤ 1 := by omega
              have H1S := Lib.hid h1s
              clear h1s
              go_wp2
              go_roundw
              case rel => exact ⟨q + 1, _, by omega, by go_num, rfl, by rw [ByteArray.size_append, H1S.out]; omega, K11.out.alloc _, L11.out.trans (grown_alloc' _ _ _)⟩
              case measure => simp [intOf]; omega
            · go_wp2
              go_roundw
              case rel => exact ⟨k + 1, T', by omega, by go_num, rfl, by omega, K10.out, L10.out⟩
              case measure => simp [intOf]; omega
      · go_wp2_with fail
        refine (d_below c a len cap z 12 _ K5.out (by omega) (by omega)).mono ?_
        rintro e w6 ⟨y, y0, y1, rfl, H6, G6⟩
        have K6 := Lib.hid H6; have L6 := Lib.hid (L5.out.trans G6)
        clear H6 G6
        by_cases hy0 : y = 0
        · subst hy0
          go_wp2_with fail
          refine (d_pick c a len cap z w6.heap.size 6 endsL 2 _ (K6.out.alloc _) rfl (by omega) (by omega) (heap_alloc_new w6 _) (by have := K6.out.lt; omega) (by decide)).mono ?_
          rintro e w7 ⟨u, rfl, hu, H7, G7⟩
          have L7 := Lib.hid (L6.out.trans ((grown_alloc' w6 _ (some c)).trans G7))
          clear H7 G7
          go_wp2
          go_ret
          exact ⟨_, rfl, by rw [ByteArray.size_append]; omega, FIN.out _ L7.out⟩
        · have hy00 : (y == 0) = false := by simp [hy0]
          by_cases hy1 : y = 1
          · subst hy1
            by_cases h600 : t.size < 600
            · go_wp2_with fail
              refine (d_below c a len cap z 2 _ K6.out (by omega) (by omega)).mono ?_
              rintro e w7 ⟨v, v0, v1, rfl, H7, G7⟩
              have L7 := Lib.hid (L6.out.trans G7)
              clear H7 G7
              obtain ⟨v', rfl⟩ := Int.eq_ofNat_of_zero_le v0
              go_wp2_with fail
              refine (d_long _ _ (600 - t.size + v') 32 _ (by omega) rfl (by omega)).mono ?_
              rintro e w8 ⟨u, rfl, hu, B8⟩
              have L8 := Lib.hid (L7.out.trans (grown_below B8 _))
              clear B8
              go_wp2
              go_ret
              exact ⟨_, rfl, by rw [ByteArray.size_append]; omega, FIN.out _ L8.out⟩
            · exfalso; omega
          · have hy11 : (y == 1) = false := by simp [hy1]
            go_wp2
            go_ret
            exact ⟨_, rfl, by omega, FIN.out _ L6.out⟩
end Go.Proofs.YthppmncndindiaaDoor
