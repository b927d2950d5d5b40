/- SymbolAt, the model's and the program's. -/
import Derived.Test.YtljmkkodhnkemaaRows
import Derived.Test.YtljmkkodhnkemaaImgPlain
import Derived.Outline
import Derived.Lib.Hide
import Derived.Below
import Derived.FnLit
import Derived.Deep.QuietTactic
import Derived.BigQuiet
namespace Go.Proofs.Ytljmkkodhnkemaa
open Go.RowKit Go.Lib

def adB (n : Int) : Bool := decide (0 ≤ n) && decide (n ≤ 1000000)
theorem ret_b9 {p q : Bool} (h : p = q) : Ending.returned (.bool p) = .returned (.bool q) := by rw [h]
theorem s_in9 (x a b : Int) (w : World) : Calls Try.prog 19 #[.int .i64 x, .int .i64 a, .int .i64 b] w fun e w' => e = .returned (.bool (decide (a ≤ x) && decide (x ≤ b))) ∧ w = w' := by
  by_cases h1 : a ≤ x <;> by_cases h2 : x ≤ b
  all_goals
    go_enter Try.func19, Try.ntmps19
    go_wp2
    go_ret
    exact ⟨ret_b9 (by simp [h1, h2]), rfl⟩
theorem i_isAd (x : Int) (w : World) : Calls Try.prog 60 #[.int .i64 x] w fun e w' => e = .returned (.bool (adB x)) ∧ w = w' := by
  unfold adB
  by_cases h1 : 0 ≤ x <;> by_cases h2 : x ≤ 1000000
  all_goals
    go_enter Try.func60, Try.ntmps60
    go_wp2
    go_ret
    exact ⟨ret_b9 (by simp [h1, h2]), rfl⟩
theorem syIn_no1 (x : SyL) (o : Int) (h : adB x.start = false) : syIn x o = false := by unfold adB at h; unfold syIn; rw [h]; rfl
theorem syIn_no2 (x : SyL) (o : Int) (h : adB x.size = false) : syIn x o = false := by unfold adB at h; unfold syIn; rw [h]; simp
theorem syIn_yes (x : SyL) (o : Int) (h1 : adB x.start = true) (h2 : adB x.size = true) : syIn x o = (decide (x.start ≤ o) && decide (o < x.start + x.size)) := by unfold adB at h1 h2; unfold syIn; rw [h1, h2]; simp
theorem adB_is {n : Int} (h : adB n = true) : 0 ≤ n ∧ n ≤ 1000000 := by unfold adB at h; simpa using h
/-- The closure: does a symbol hold the offset? -/
theorem i_symIs (x : SyL) (o : Int) (c : Nat) (w : World) (hc : w.cell? ⟨c, 0, none⟩ = some (.int .i64 o)) (hcl : c < w.heap.size) :
    Calls Try.prog 59 #[.agg #[.string x.name, .int .i64 x.start, .int .i64 x.size], .pointer (some ⟨c, 0, none⟩)] w fun e w' => e = .returned (.bool (syIn x o)) ∧ Below w.heap.size w w' := by
  obtain ⟨nm, st, sz⟩ := x
  dsimp only
  have HB : Hid (Below w.heap.size w (w.alloc (.cells #[.string nm, .int .i64 st, .int .i64 sz] 66))) := Lib.hid ((Below.refl _ _).alloc (Nat.le_refl _) _)
  have e2 : (w.alloc (.cells #[.string nm, .int .i64 st, .int .i64 sz] 66)).cell? ⟨c, 0, none⟩ = some (.int .i64 o) := (HB.out.cell (p := ⟨c, 0, none⟩) hcl).trans hc
  have I1 := Lib.hid (fun W => i_isAd st W)
  have I2 := Lib.hid (fun W => i_isAd sz W)
  clear hc
  cases h1 : adB st with
  | false =>
    have HV := Lib.hid (syIn_no1 ⟨nm, st, sz⟩ o h1)
    rw [h1] at I1
    clear h1 I2
    go_enter Try.func59, Try.ntmps59
    go_wp2_with fail
    refine (I1.out _).mono ?_
    rintro e w' ⟨rfl, rfl⟩
    go_wp2
    go_ret
    exact ⟨ret_b9 HV.out.symm, HB.out⟩
  | true =>
    cases h2 : adB sz with
    | false =>
      have HV := Lib.hid (syIn_no2 ⟨nm, st, sz⟩ o h2)
      rw [h1] at I1
      rw [h2] at I2
      clear h1 h2
      go_enter Try.func59, Try.ntmps59
      go_wp2_with fail
      refine (I1.out _).mono ?_
      rintro e w' ⟨rfl, rfl⟩
      go_wp2_with fail
      refine (I2.out _).mono ?_
      rintro e w' ⟨rfl, rfl⟩
      go_wp2
      go_ret
      exact ⟨ret_b9 HV.out.symm, HB.out⟩
    | true =>
      have HV := Lib.hid (syIn_yes ⟨nm, st, sz⟩ o h1 h2)
      obtain ⟨a1, a2⟩ := adB_is h1
      obtain ⟨a3, a4⟩ := adB_is h2
      rw [h1] at I1
      rw [h2] at I2
      have u1 : IntKind.i64.wrap (st + sz) = st + sz := IntWalk.i64_in _ (by omega)
      clear h1 h2
      by_cases h3 : st ≤ o <;> by_cases h4 : o < st + sz
      rotate_left 3
      · exfalso; omega
      all_goals
        go_enter Try.func59, Try.ntmps59
        go_wp2_with fail
        refine (I1.out _).mono ?_
        rintro e w' ⟨rfl, rfl⟩
        go_wp2_with fail
        refine (I2.out _).mono ?_
        rintro e w' ⟨rfl, rfl⟩
        go_wp2
        go_ret
        exact ⟨by rw [HV.out]; exact ret_b9 (by simp [h3, h4]), HB.out⟩

theorem symF_yes (X : List SyL) (o : Int) (q : Nat) (h : q < X.length) (h0 : syIn X[q] o = true) : symF o q (X.drop q) = (q : Int) := by rw [symF_at X o q h, if_pos h0]
theorem symF_no (X : List SyL) (o : Int) (q : Nat) (h : q < X.length) (h0 : syIn X[q] o = false) : symF o q (X.drop q) = symF o (q + 1) (X.drop (q + 1)) := by rw [symF_at X o q h, if_neg (by rw [h0]; decide)]

set_option maxRecDepth 100000 in
set_option maxHeartbeats 2000000 in
theorem i_symIx (a : Option Addr) (cap : Nat) (X : List SyL) (o : Int) (c : Nat) (w : World) (hl : X.length ≤ 2000000) (hr : ReadSy w a X) (hc : w.cell? ⟨c, 0, none⟩ = some (.int .i64 o)) (hcl : c < w.heap.size) :
    Calls Try.prog 58 #[.slice a X.length cap, .func (.func 59) #[] #[.pointer (some ⟨c, 0, none⟩)]] w fun e w' => e = .returned (.int .i64 (symZ X o)) ∧ Below w.heap.size w w' := by
  have HR := Lib.hid hr
  have HC := Lib.hid (fun (W : World) (hb : Below w.heap.size w W) x => i_symIs x o c W ((hb.cell (p := ⟨c, 0, none⟩) hcl).trans hc) (by have := hb.size; omega))
  clear hr hc
  go_enter Try.func58, Try.ntmps58
  go_wp2_with fail
  go_loopw [5, 8] (fun _ i wr => ∃ q : Nat, q ≤ X.length ∧ i = .int .i64 (q : Int) ∧ Hid (symF o q (X.drop q) = symZ X o) ∧ Below w.heap.size w wr) (fun _ i _ => X.length - (RowKit.intOf i).toNat)
  case atStart => exact ⟨0, Nat.zero_le _, rfl, Lib.hid rfl, Below.refl _ _⟩
  case round =>
    obtain ⟨q, hq, rfl, HE, hbel⟩ := hrel
    have HB := Lib.hid hbel
    have hB := hbel.size
    by_cases hlt : q < X.length
    · obtain ⟨g, rfl, hg, c0, c1, c2⟩ := (HR.out.below hbel) q hlt
      have HY := Lib.hid (symF_yes X o q hlt)
      have HNO := Lib.hid (symF_no X o q hlt)
      have HF := Lib.hid (HC.out wr hbel X[q])
      have k0 : (0 : Int) ≤ (q : Int) := by omega
      have k1 : (q : Int) < (X.length : Int) := by omega
      generalize X[q] = xx at *
      obtain ⟨nm, st, sz⟩ := xx
      dsimp only at c0 c1 c2 HF
      clear hbel
      cases hb : syIn ⟨nm, st, sz⟩ o with
      | true =>
        have HN' := Lib.hid ((HY.out hb).symm.trans HE.out)
        rw [hb] at HF
        clear HY HNO hb
        go_wp2_with fail
        refine HF.out.mono ?_
        rintro e w1 ⟨rfl, b1⟩
        have HB1 : Hid (Below w.heap.size w w1) := Lib.hid (HB.out.trans (b1.mono hB))
        clear b1 c0 c1 c2
        go_wp2
        go_ret
        exact ⟨by rw [← HN'.out]; rfl, HB1.out⟩
      | false =>
        have HN' := Lib.hid ((HNO.out hb).symm.trans HE.out)
        rw [hb] at HF
        clear HY HNO hb
        go_wp2_with fail
        refine HF.out.mono ?_
        rintro e w1 ⟨rfl, b1⟩
        have HB1 : Hid (Below w.heap.size w w1) := Lib.hid (HB.out.trans (b1.mono hB))
        clear b1 c0 c1 c2
        go_wp2
        go_roundw
        case rel => exact ⟨q + 1, by omega, by go_num, HN', HB1.out⟩
        case measure => simp [RowKit.intOf]; omega
    · have hqq : q = X.length := by omega
      subst hqq
      have HN' : Hid (-1 = symZ X o) := Lib.hid (by rw [← HE.out, symF_out _ _ _ (by omega)])
      clear hbel
      go_wp2
      go_ret
      exact ⟨by rw [← HN'.out]; rfl, HB.out⟩

set_option maxRecDepth 100000 in
set_option maxHeartbeats 2000000 in
theorem i_symbolAt (s : ByteArray) (a : Option Addr) (cap : Nat) (X : List SyL) (o : Int) (w : World) (hl : X.length ≤ 2000000) (hr : ReadSy w a X) :
    Calls Try.prog 52 #[.agg #[.string s, .slice a X.length cap], .int .i64 o] w fun e w' => e = .returned (.int .i64 (symZ X o)) ∧ Below w.heap.size w w' := by
  have T := Lib.hid (two_new w (.cells #[.string s, .slice a X.length cap] 61) (.cells #[.int .i64 o] 3))
  have IX := Lib.hid (i_symIx a cap X o (w.heap.size + 1) _ hl (hr.below T.out.2.2.2) ((blk T.out.2.1).1 0 _ rfl) (blk T.out.2.1).2.2)
  clear hr
  go_enter Try.func52, Try.ntmps52
  go_wp2_with fail
  refine IX.out.mono ?_
  rintro e w1 ⟨rfl, b1⟩
  have HB1 : Hid (Below w.heap.size w w1) := Lib.hid (T.out.2.2.2.trans (b1.mono (by have := T.out.2.2.1; omega)))
  clear b1
  go_wp2
  go_ret
  exact ⟨rfl, HB1.out⟩

set_option maxRecDepth 100000 in
set_option maxHeartbeats 4000000 in
theorem s_symbolAt (s : ByteArray) (a : Option Addr) (cap : Nat) (X : List SyL) (o : Int) (w : World) (hl : X.length ≤ 2000000) (hr : ReadSy w a X) :
    Calls Try.prog 33 #[.agg #[.string s, .slice a X.length cap], .int .i64 o] w fun e w' => e = .returned (.int .i64 (symZ X o)) ∧ Below w.heap.size w w' := by
  have HR := Lib.hid hr
  have HBX : Hid (Below w.heap.size w (w.alloc (.cells #[.string s, .slice a X.length cap] 61))) := Lib.hid ((Below.refl _ _).alloc (Nat.le_refl _) _)
  have HXS : Hid ((w.alloc (.cells #[.string s, .slice a X.length cap] 61)).heap.size = w.heap.size + 1) := Lib.hid (by simp)
  have HC1 : Hid (∀ W, Below (w.heap.size + 1) (w.alloc (.cells #[.string s, .slice a X.length cap] 61)) W → W.cell? ⟨w.heap.size, 1, none⟩ = some (.slice a X.length cap)) := Lib.hid (fun W hb => (hb.cell (p := ⟨w.heap.size, 1, none⟩) (by show w.heap.size < w.heap.size + 1; omega)).trans ((blk (heap_alloc_new w _)).1 1 _ rfl))
  clear hr
  go_enter Try.func33, Try.ntmps33
  go_wp2_with fail
  go_loopw [5, 6] (fun i _ wr => ∃ q : Nat, q ≤ X.length ∧ i = .int .i64 (q : Int) ∧ Hid (symF o q (X.drop q) = symZ X o) ∧ Hid (Below (w.heap.size + 1) (w.alloc (.cells #[.string s, .slice a X.length cap] 61)) wr)) (fun i _ _ => X.length - (RowKit.intOf i).toNat)
  case atStart => exact ⟨0, Nat.zero_le _, rfl, Lib.hid rfl, Lib.hid (Below.refl _ _)⟩
  case round =>
    obtain ⟨q, hq, rfl, HE, HB⟩ := hrel
    have HBW : Hid (Below w.heap.size w wr) := Lib.hid (HBX.out.trans (HB.out.mono (by omega)))
    have c00 := HC1.out wr HB.out
    by_cases hlt : q < X.length
    · obtain ⟨g, rfl, hg, c0, c1, c2⟩ := (HR.out.below HBW.out) q hlt
      have HY := Lib.hid (symF_yes X o q hlt)
      have HNO := Lib.hid (symF_no X o q hlt)
      have k0 : (0 : Int) ≤ (q : Int) := by omega
      have k1 : (q : Int) < (X.length : Int) := by omega
      generalize X[q] = xx at *
      obtain ⟨nm, st, sz⟩ := xx
      dsimp only at c0 c1 c2
      have hz := HB.out.size
      rw [HXS.out] at hz
      have HB2 : Hid (Below (w.heap.size + 1) (w.alloc (.cells #[.string s, .slice (some ⟨g, 0, none⟩) X.length cap] 61)) (wr.alloc (.cells #[.string nm, .int .i64 st, .int .i64 sz] 66))) := Lib.hid (HB.out.alloc hz _)
      have I1 := Lib.hid (fun W => s_in9 st 0 1000000 W)
      have I2 := Lib.hid (fun W => s_in9 sz 0 1000000 W)
      cases h1 : adB st with
      | false =>
        have HN' := Lib.hid ((HNO.out (syIn_no1 ⟨nm, st, sz⟩ o h1)).symm.trans HE.out)
        unfold adB at h1
        rw [h1] at I1
        clear h1 I2 HY HNO
        go_wp2_with fail
        refine (I1.out _).mono ?_
        rintro e w' ⟨rfl, rfl⟩
        go_wp2
        go_roundw
        case rel => exact ⟨q + 1, by omega, by go_num, HN', HB2⟩
        case measure => simp [RowKit.intOf]; omega
      | true =>
        cases h2 : adB sz with
        | false =>
          have HN' := Lib.hid ((HNO.out (syIn_no2 ⟨nm, st, sz⟩ o h2)).symm.trans HE.out)
          unfold adB at h1 h2
          rw [h1] at I1
          rw [h2] at I2
          clear h1 h2 HY HNO
          go_wp2_with fail
          refine (I1.out _).mono ?_
          rintro e w' ⟨rfl, rfl⟩
          go_wp2_with fail
          refine (I2.out _).mono ?_
          rintro e w' ⟨rfl, rfl⟩
          go_wp2
          go_roundw
          case rel => exact ⟨q + 1, by omega, by go_num, HN', HB2⟩
          case measure => simp [RowKit.intOf]; omega
        | true =>
          have HV := Lib.hid (syIn_yes ⟨nm, st, sz⟩ o h1 h2)
          obtain ⟨a1, a2⟩ := adB_is h1
          obtain ⟨a3, a4⟩ := adB_is h2
          unfold adB at h1 h2
          rw [h1] at I1
          rw [h2] at I2
          have u1 : IntKind.i64.wrap (st + sz) = st + sz := IntWalk.i64_in _ (by omega)
          clear h1 h2
          by_cases h3 : st ≤ o
          · by_cases h4 : o < st + sz
            · have HN' := Lib.hid ((HY.out (by rw [HV.out, decide_eq_true h3, decide_eq_true h4]; rfl)).symm.trans HE.out)
              clear HY HNO HV
              go_wp2_with fail
              refine (I1.out _).mono ?_
              rintro e w' ⟨rfl, rfl⟩
              go_wp2_with fail
              refine (I2.out _).mono ?_
              rintro e w' ⟨rfl, rfl⟩
              go_wp2
              go_ret
              exact ⟨by rw [← HN'.out]; rfl, HBW.out.alloc (by omega) _⟩
            · have HN' := Lib.hid ((HNO.out (by rw [HV.out, decide_eq_false h4]; simp)).symm.trans HE.out)
              clear HY HNO HV
              go_wp2_with fail
              refine (I1.out _).mono ?_
              rintro e w' ⟨rfl, rfl⟩
              go_wp2_with fail
              refine (I2.out _).mono ?_
              rintro e w' ⟨rfl, rfl⟩
              go_wp2
              go_roundw
              case rel => exact ⟨q + 1, by omega, by go_num, HN', HB2⟩
              case measure => simp [RowKit.intOf]; omega
          · have HN' := Lib.hid ((HNO.out (by rw [HV.out, decide_eq_false h3]; rfl)).symm.trans HE.out)
            clear HY HNO HV
            go_wp2_with fail
            refine (I1.out _).mono ?_
            rintro e w' ⟨rfl, rfl⟩
            go_wp2_with fail
            refine (I2.out _).mono ?_
            rintro e w' ⟨rfl, rfl⟩
            go_wp2
            go_roundw
            case rel => exact ⟨q + 1, by omega, by go_num, HN', HB2⟩
            case measure => simp [RowKit.intOf]; omega
    · have hqq : q = X.length := by omega
      subst hqq
      have HN' : Hid (-1 = symZ X o) := Lib.hid (by rw [← HE.out, symF_out _ _ _ (by omega)])
      go_wp2
      go_ret
      exact ⟨by rw [← HN'.out]; rfl, HBW.out⟩
end Go.Proofs.Ytljmkkodhnkemaa
