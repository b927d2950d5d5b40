/- SymbolAt, the model's and the program's; The model's DecodeOp; DecodeOp, the model's, at any index; Disassemble, the model's and the program's: rows of instructions; Disassemble, the model's. -/
import Derived.Test.YtakgjlpgcepnkaaGreatRows
import Derived.Test.YtakgjlpgcepnkaaGreatI02
import Derived.Test.YtakgjlpgcepnkaaGreatI07
import Derived.Outline
import Derived.Lib.Hide
import Derived.Below
import Derived.FnLit
import Derived.Deep.QuietTactic
import Derived.BigQuiet
import Derived.Deep.RegionHeld3
import Derived.Deep.Cut
import Derived.Deep.AppendLies
/-! SymbolAt, the model's and the program's -/
namespace Go.Proofs.YtakgjlpgcepnkaaGreat
open Go.RowKit Go.Lib

def adB (n : Int) : Bool := decide (0 ≤ n) && decide (n ≤ 1000000)
theorem ret_b9 {p q : Bool} (h : p = q) : Ending.returned (.bool p) = .returned (.bool q) := by rw [h]
theorem s_in9 (x a b : Int) (w : World) : Calls Tryz.prog 35 #[.int .i64 x, .int .i64 a, .int .i64 b] w fun e w' => e = .returned (.bool (decide (a ≤ x) && decide (x ≤ b))) ∧ w = w' := by
  by_cases h1 : a ≤ x <;> by_cases h2 : x ≤ b
  all_goals
    go_enter Tryz.func35, Tryz.ntmps35
    go_wp2
    go_ret
    exact ⟨ret_b9 (by simp [h1, h2]), rfl⟩
theorem i_isAd (x : Int) (w : World) : Calls Tryz.prog 99 #[.int .i64 x] w fun e w' => e = .returned (.bool (adB x)) ∧ w = w' := by
  unfold adB
  by_cases h1 : 0 ≤ x <;> by_cases h2 : x ≤ 1000000
  all_goals
    go_enter Tryz.func99, Tryz.ntmps99
    go_wp2
    go_ret
    exact ⟨ret_b9 (by simp [h1, h2]), rfl⟩
theorem syIn_no1 (x : SyL) (o : Int) (h : adB x.start = false) : syIn x o = false := by unfold adB at h; unfold syIn; rw [h]; rfl
theorem syIn_no2 (x : SyL) (o : Int) (h : adB x.size = false) : syIn x o = false := by unfold adB at h; unfold syIn; rw [h]; simp
theorem syIn_yes (x : SyL) (o : Int) (h1 : adB x.start = true) (h2 : adB x.size = true) : syIn x o = (decide (x.start ≤ o) && decide (o < x.start + x.size)) := by unfold adB at h1 h2; unfold syIn; rw [h1, h2]; simp
theorem adB_is {n : Int} (h : adB n = true) : 0 ≤ n ∧ n ≤ 1000000 := by unfold adB at h; simpa using h
/-- The closure: does a symbol hold the offset? -/
theorem i_symIs (x : SyL) (o : Int) (c : Nat) (w : World) (hc : w.cell? ⟨c, 0, none⟩ = some (.int .i64 o)) (hcl : c < w.heap.size) :
    Calls Tryz.prog 98 #[.agg #[.string x.name, .int .i64 x.start, .int .i64 x.size], .pointer (some ⟨c, 0, none⟩)] w fun e w' => e = .returned (.bool (syIn x o)) ∧ Below w.heap.size w w' := by
  obtain ⟨nm, st, sz⟩ := x
  dsimp only
  have HB : Hid (Below w.heap.size w (w.alloc (.cells #[.string nm, .int .i64 st, .int .i64 sz] 70))) := Lib.hid ((Below.refl _ _).alloc (Nat.le_refl _) _)
  have e2 : (w.alloc (.cells #[.string nm, .int .i64 st, .int .i64 sz] 70)).cell? ⟨c, 0, none⟩ = some (.int .i64 o) := (HB.out.cell (p := ⟨c, 0, none⟩) hcl).trans hc
  have I1 := Lib.hid (fun W => i_isAd st W)
  have I2 := Lib.hid (fun W => i_isAd sz W)
  clear hc
  cases h1 : adB st with
  | false =>
    have HV := Lib.hid (syIn_no1 ⟨nm, st, sz⟩ o h1)
    rw [h1] at I1
    clear h1 I2
    go_enter Tryz.func98, Tryz.ntmps98
    go_wp2_with fail
    refine (I1.out _).mono ?_
    rintro e w' ⟨rfl, rfl⟩
    go_wp2
    go_ret
    exact ⟨ret_b9 HV.out.symm, HB.out⟩
  | true =>
    cases h2 : adB sz with
    | false =>
      have HV := Lib.hid (syIn_no2 ⟨nm, st, sz⟩ o h2)
      rw [h1] at I1
      rw [h2] at I2
      clear h1 h2
      go_enter Tryz.func98, Tryz.ntmps98
      go_wp2_with fail
      refine (I1.out _).mono ?_
      rintro e w' ⟨rfl, rfl⟩
      go_wp2_with fail
      refine (I2.out _).mono ?_
      rintro e w' ⟨rfl, rfl⟩
      go_wp2
      go_ret
      exact ⟨ret_b9 HV.out.symm, HB.out⟩
    | true =>
      have HV := Lib.hid (syIn_yes ⟨nm, st, sz⟩ o h1 h2)
      obtain ⟨a1, a2⟩ := adB_is h1
      obtain ⟨a3, a4⟩ := adB_is h2
      rw [h1] at I1
      rw [h2] at I2
      have u1 : IntKind.i64.wrap (st + sz) = st + sz := IntWalk.i64_in _ (by omega)
      clear h1 h2
      by_cases h3 : st ≤ o <;> by_cases h4 : o < st + sz
      rotate_left 3
      · exfalso; omega
      all_goals
        go_enter Tryz.func98, Tryz.ntmps98
        go_wp2_with fail
        refine (I1.out _).mono ?_
        rintro e w' ⟨rfl, rfl⟩
        go_wp2_with fail
        refine (I2.out _).mono ?_
        rintro e w' ⟨rfl, rfl⟩
        go_wp2
        go_ret
        exact ⟨by rw [HV.out]; exact ret_b9 (by simp [h3, h4]), HB.out⟩

theorem symF_yes (X : List SyL) (o : Int) (q : Nat) (h : q < X.length) (h0 : syIn X[q] o = true) : symF o q (X.drop q) = (q : Int) := by rw [symF_at X o q h, if_pos h0]
theorem symF_no (X : List SyL) (o : Int) (q : Nat) (h : q < X.length) (h0 : syIn X[q] o = false) : symF o q (X.drop q) = symF o (q + 1) (X.drop (q + 1)) := by rw [symF_at X o q h, if_neg (by rw [h0]; decide)]

set_option maxRecDepth 100000 in
set_option maxHeartbeats 2000000 in
theorem i_symIx (a : Option Addr) (cap : Nat) (X : List SyL) (o : Int) (c : Nat) (w : World) (hl : X.length ≤ 2000000) (hr : ReadSy w a X) (hc : w.cell? ⟨c, 0, none⟩ = some (.int .i64 o)) (hcl : c < w.heap.size) :
    Calls Tryz.prog 97 #[.slice a X.length cap, .func (.func 98) #[] #[.pointer (some ⟨c, 0, none⟩)]] w fun e w' => e = .returned (.int .i64 (symZ X o)) ∧ Below w.heap.size w w' := by
  have HR := Lib.hid hr
  have HC := Lib.hid (fun (W : World) (hb : Below w.heap.size w W) x => i_symIs x o c W ((hb.cell (p := ⟨c, 0, none⟩) hcl).trans hc) (by have := hb.size; omega))
  clear hr hc
  go_enter Tryz.func97, Tryz.ntmps97
  go_wp2_with fail
  go_loopw [5, 8] (fun _ i wr => ∃ q : Nat, q ≤ X.length ∧ i = .int .i64 (q : Int) ∧ Hid (symF o q (X.drop q) = symZ X o) ∧ Below w.heap.size w wr) (fun _ i _ => X.length - (RowKit.intOf i).toNat)
  case atStart => exact ⟨0, Nat.zero_le _, rfl, Lib.hid rfl, Below.refl _ _⟩
  case round =>
    obtain ⟨q, hq, rfl, HE, hbel⟩ := hrel
    have HB := Lib.hid hbel
    have hB := hbel.size
    by_cases hlt : q < X.length
    · obtain ⟨g, rfl, hg, c0, c1, c2⟩ := (HR.out.below hbel) q hlt
      have HY := Lib.hid (symF_yes X o q hlt)
      have HNO := Lib.hid (symF_no X o q hlt)
      have HF := Lib.hid (HC.out wr hbel X[q])
      have k0 : (0 : Int) ≤ (q : Int) := by omega
      have k1 : (q : Int) < (X.length : Int) := by omega
      generalize X[q] = xx at *
      obtain ⟨nm, st, sz⟩ := xx
      dsimp only at c0 c1 c2 HF
      clear hbel
      cases hb : syIn ⟨nm, st, sz⟩ o with
      | true =>
        have HN' := Lib.hid ((HY.out hb).symm.trans HE.out)
        rw [hb] at HF
        clear HY HNO hb
        go_wp2_with fail
        refine HF.out.mono ?_
        rintro e w1 ⟨rfl, b1⟩
        have HB1 : Hid (Below w.heap.size w w1) := Lib.hid (HB.out.trans (b1.mono hB))
        clear b1 c0 c1 c2
        go_wp2
        go_ret
        exact ⟨by rw [← HN'.out]; rfl, HB1.out⟩
      | false =>
        have HN' := Lib.hid ((HNO.out hb).symm.trans HE.out)
        rw [hb] at HF
        clear HY HNO hb
        go_wp2_with fail
        refine HF.out.mono ?_
        rintro e w1 ⟨rfl, b1⟩
        have HB1 : Hid (Below w.heap.size w w1) := Lib.hid (HB.out.trans (b1.mono hB))
        clear b1 c0 c1 c2
        go_wp2
        go_roundw
        case rel => exact ⟨q + 1, by omega, by go_num, HN', HB1.out⟩
        case measure => simp [RowKit.intOf]; omega
    · have hqq : q = X.length := by omega
      subst hqq
      have HN' : Hid (-1 = symZ X o) := Lib.hid (by rw [← HE.out, symF_out _ _ _ (by omega)])
      clear hbel
      go_wp2
      go_ret
      exact ⟨by rw [← HN'.out]; rfl, HB.out⟩

set_option maxRecDepth 100000 in
set_option maxHeartbeats 2000000 in
theorem i_symbolAt (s : ByteArray) (a : Option Addr) (cap : Nat) (X : List SyL) (o : Int) (w : World) (hl : X.length ≤ 2000000) (hr : ReadSy w a X) :
    Calls Tryz.prog 73 #[.agg #[.string s, .slice a X.length cap], .int .i64 o] w fun e w' => e = .returned (.int .i64 (symZ X o)) ∧ Below w.heap.size w w' := by
  have T := Lib.hid (two_new w (.cells #[.string s, .slice a X.length cap] 65) (.cells #[.int .i64 o] 3))
  have IX := Lib.hid (i_symIx a cap X o (w.heap.size + 1) _ hl (hr.below T.out.2.2.2) ((blk T.out.2.1).1 0 _ rfl) (blk T.out.2.1).2.2)
  clear hr
  go_enter Tryz.func73, Tryz.ntmps73
  go_wp2_with fail
  refine IX.out.mono ?_
  rintro e w1 ⟨rfl, b1⟩
  have HB1 : Hid (Below w.heap.size w w1) := Lib.hid (T.out.2.2.2.trans (b1.mono (by have := T.out.2.2.1; omega)))
  clear b1
  go_wp2
  go_ret
  exact ⟨rfl, HB1.out⟩

set_option maxRecDepth 100000 in
set_option maxHeartbeats 4000000 in
theorem s_symbolAt (s : ByteArray) (a : Option Addr) (cap : Nat) (X : List SyL) (o : Int) (w : World) (hl : X.length ≤ 2000000) (hr : ReadSy w a X) :
    Calls Tryz.prog 39 #[.agg #[.string s, .slice a X.length cap], .int .i64 o] w fun e w' => e = .returned (.int .i64 (symZ X o)) ∧ Below w.heap.size w w' := by
  have HR := Lib.hid hr
  have HBX : Hid (Below w.heap.size w (w.alloc (.cells #[.string s, .slice a X.length cap] 65))) := Lib.hid ((Below.refl _ _).alloc (Nat.le_refl _) _)
  have HXS : Hid ((w.alloc (.cells #[.string s, .slice a X.length cap] 65)).heap.size = w.heap.size + 1) := Lib.hid (by simp)
  have HC1 : Hid (∀ W, Below (w.heap.size + 1) (w.alloc (.cells #[.string s, .slice a X.length cap] 65)) W → W.cell? ⟨w.heap.size, 1, none⟩ = some (.slice a X.length cap)) := Lib.hid (fun W hb => (hb.cell (p := ⟨w.heap.size, 1, none⟩) (by show w.heap.size < w.heap.size + 1; omega)).trans ((blk (heap_alloc_new w _)).1 1 _ rfl))
  clear hr
  go_enter Tryz.func39, Tryz.ntmps39
  go_wp2_with fail
  go_loopw [5, 6] (fun i _ wr => ∃ q : Nat, q ≤ X.length ∧ i = .int .i64 (q : Int) ∧ Hid (symF o q (X.drop q) = symZ X o) ∧ Hid (Below (w.heap.size + 1) (w.alloc (.cells #[.string s, .slice a X.length cap] 65)) wr)) (fun i _ _ => X.length - (RowKit.intOf i).toNat)
  case atStart => exact ⟨0, Nat.zero_le _, rfl, Lib.hid rfl, Lib.hid (Below.refl _ _)⟩
  case round =>
    obtain ⟨q, hq, rfl, HE, HB⟩ := hrel
    have HBW : Hid (Below w.heap.size w wr) := Lib.hid (HBX.out.trans (HB.out.mono (by omega)))
    have c00 := HC1.out wr HB.out
    by_cases hlt : q < X.length
    · obtain ⟨g, rfl, hg, c0, c1, c2⟩ := (HR.out.below HBW.out) q hlt
      have HY := Lib.hid (symF_yes X o q hlt)
      have HNO := Lib.hid (symF_no X o q hlt)
      have k0 : (0 : Int) ≤ (q : Int) := by omega
      have k1 : (q : Int) < (X.length : Int) := by omega
      generalize X[q] = xx at *
      obtain ⟨nm, st, sz⟩ := xx
      dsimp only at c0 c1 c2
      have hz := HB.out.size
      rw [HXS.out] at hz
      have HB2 : Hid (Below (w.heap.size + 1) (w.alloc (.cells #[.string s, .slice (some ⟨g, 0, none⟩) X.length cap] 65)) (wr.alloc (.cells #[.string nm, .int .i64 st, .int .i64 sz] 70))) := Lib.hid (HB.out.alloc hz _)
      have I1 := Lib.hid (fun W => s_in9 st 0 1000000 W)
      have I2 := Lib.hid (fun W => s_in9 sz 0 1000000 W)
      cases h1 : adB st with
      | false =>
        have HN' := Lib.hid ((HNO.out (syIn_no1 ⟨nm, st, sz⟩ o h1)).symm.trans HE.out)
        unfold adB at h1
        rw [h1] at I1
        clear h1 I2 HY HNO
        go_wp2_with fail
        refine (I1.out _).mono ?_
        rintro e w' ⟨rfl, rfl⟩
        go_wp2
        go_roundw
        case rel => exact ⟨q + 1, by omega, by go_num, HN', HB2⟩
        case measure => simp [RowKit.intOf]; omega
      | true =>
        cases h2 : adB sz with
        | false =>
          have HN' := Lib.hid ((HNO.out (syIn_no2 ⟨nm, st, sz⟩ o h2)).symm.trans HE.out)
          unfold adB at h1 h2
          rw [h1] at I1
          rw [h2] at I2
          clear h1 h2 HY HNO
          go_wp2_with fail
          refine (I1.out _).mono ?_
          rintro e w' ⟨rfl, rfl⟩
          go_wp2_with fail
          refine (I2.out _).mono ?_
          rintro e w' ⟨rfl, rfl⟩
          go_wp2
          go_roundw
          case rel => exact ⟨q + 1, by omega, by go_num, HN', HB2⟩
          case measure => simp [RowKit.intOf]; omega
        | true =>
          have HV := Lib.hid (syIn_yes ⟨nm, st, sz⟩ o h1 h2)
          obtain ⟨a1, a2⟩ := adB_is h1
          obtain ⟨a3, a4⟩ := adB_is h2
          unfold adB at h1 h2
          rw [h1] at I1
          rw [h2] at I2
          have u1 : IntKind.i64.wrap (st + sz) = st + sz := IntWalk.i64_in _ (by omega)
          clear h1 h2
          by_cases h3 : st ≤ o
          · by_cases h4 : o < st + sz
            · have HN' := Lib.hid ((HY.out (by rw [HV.out, decide_eq_true h3, decide_eq_true h4]; rfl)).symm.trans HE.out)
              clear HY HNO HV
              go_wp2_with fail
              refine (I1.out _).mono ?_
              rintro e w' ⟨rfl, rfl⟩
              go_wp2_with fail
              refine (I2.out _).mono ?_
              rintro e w' ⟨rfl, rfl⟩
              go_wp2
              go_ret
              exact ⟨by rw [← HN'.out]; rfl, HBW.out.alloc (by omega) _⟩
            · have HN' := Lib.hid ((HNO.out (by rw [HV.out, decide_eq_false h4]; simp)).symm.trans HE.out)
              clear HY HNO HV
              go_wp2_with fail
              refine (I1.out _).mono ?_
              rintro e w' ⟨rfl, rfl⟩
              go_wp2_with fail
              refine (I2.out _).mono ?_
              rintro e w' ⟨rfl, rfl⟩
              go_wp2
              go_roundw
              case rel => exact ⟨q + 1, by omega, by go_num, HN', HB2⟩
              case measure => simp [RowKit.intOf]; omega
          · have HN' := Lib.hid ((HNO.out (by rw [HV.out, decide_eq_false h3]; rfl)).symm.trans HE.out)
            clear HY HNO HV
            go_wp2_with fail
            refine (I1.out _).mono ?_
            rintro e w' ⟨rfl, rfl⟩
            go_wp2_with fail
            refine (I2.out _).mono ?_
            rintro e w' ⟨rfl, rfl⟩
            go_wp2
            go_roundw
            case rel => exact ⟨q + 1, by omega, by go_num, HN', HB2⟩
            case measure => simp [RowKit.intOf]; omega
    · have hqq : q = X.length := by omega
      subst hqq
      have HN' : Hid (-1 = symZ X o) := Lib.hid (by rw [← HE.out, symF_out _ _ _ (by omega)])
      go_wp2
      go_ret
      exact ⟨by rw [← HN'.out]; rfl, HBW.out⟩
end Go.Proofs.YtakgjlpgcepnkaaGreat

/-! The model's DecodeOp -/
namespace Go.Proofs.YtakgjlpgcepnkaaGreat
open Go.RowKit Go.Lib

theorem below_drwS {B : Nat} {w w' : World} (h : Below B w w') (k : Nat) : Below B w (w'.drewN k) := ⟨h.os, h.tape, h.output, h.size, h.block⟩

theorem s_dec_out (s : ByteArray) (a : Int) (w : World) (hm : s.size ≤ maxLen) (h : a < 0 ∨ (s.size : Int) ≤ a) :
    Calls Tryz.prog 60 #[.string s, .int .i64 a] w fun e w' => e = .returned (decV (decZ s.data.toList a)) ∧ Below w.heap.size w w' := by
  have HR : Hid (decZ s.data.toList a = none) := Lib.hid (by
    rcases h with h | h
    · exact decZ_neg _ _ h
    · exact decZ_far _ _ (by rw [list_len]; exact h))
  unfold maxLen at hm
  by_cases h1 : a < 0
  · clear h
    go_enter Tryz.func60, Tryz.ntmps60
    go_wp2
    refine bodyPost_ret (v := .tuple #[.agg #[.int .i64 0, .int .i64 0], .int .i64 0, .bool false]) (by simp [results, Tryz.results60, go_sem]) rfl ⟨by rw [HR.out]; rfl, ?_⟩
    exact (Below.refl _ _).alloc (Nat.le_refl _) _
  · have h2 : (s.size : Int) ≤ a := by omega
    clear h
    go_enter Tryz.func60, Tryz.ntmps60
    go_wp2
    refine bodyPost_ret (v := .tuple #[.agg #[.int .i64 0, .int .i64 0], .int .i64 0, .bool false]) (by simp [results, Tryz.results60, go_sem]) rfl ⟨by rw [HR.out]; rfl, ?_⟩
    exact (Below.refl _ _).alloc (Nat.le_refl _) _

set_option maxRecDepth 100000 in
set_option maxHeartbeats 2000000 in
theorem s_dec_in (s : ByteArray) (i : Nat) (w : World) (hm : s.size ≤ 4294967296) (h : i < s.size) :
    Calls Tryz.prog 60 #[.string s, .int .i64 (i : Int)] w fun e w' => e = .returned (decV (decZ s.data.toList (i : Int))) ∧ Below w.heap.size w w' := by
  have hl : i < s.data.toList.length := by rw [list_len]; exact h
  have HR := Lib.hid (decZ_in s.data.toList i hl)
  have hg : s.data.toList[i] = s[i]'h := rfl
  rw [hg] at HR
  have NB := Lib.hid (fun k hk hj => next_byte s.data.toList i k hk hj)
  obtain ⟨L, hL⟩ : ∃ L, s.data.toList.drop (i + 1) = L := ⟨_, rfl⟩
  have hLl : L.length = s.size - (i + 1) := by rw [← hL, List.length_drop, list_len]
  rw [hL] at HR NB
  have S := Lib.hid (fun W => s_size ((s[i]'h).toNat : Int) W)
  have WD := Lib.hid (fun W => s_wid ((s[i]'h).toNat : Int) W)
  have hb := (s[i]'h).toNat_lt
  have hwc : wrap64 ((s[i]'h).toNat : Int) = ((s[i]'h).toNat : Int) := by unfold wrap64; omega
  obtain ⟨c, hc⟩ : ∃ c : Int, ((s[i]'h).toNat : Int) = c := ⟨_, rfl⟩
  rw [hc] at HR S WD
  have hc0 : 0 ≤ c := by omega
  have hc1 : c < 256 := by omega
  have HC := Lib.hid hc
  have FC := Lib.hid (fit_cases c)
  have hw4 := widN_le c
  have HSZ := Lib.hid (sizZ_zero c hc0)
  have HSC := Lib.hid (sizZ_code c hc0)
  have HV0 : Hid (valB (L.take 0) = 0) := Lib.hid rfl
  obtain ⟨m, hme⟩ : ∃ m : Nat, widN c = m := ⟨_, rfl⟩
  obtain ⟨sg, hsg⟩ : ∃ sg, sgnB c = sg := ⟨_, rfl⟩
  obtain ⟨sz, hsz⟩ : ∃ sz, sizZ c = sz := ⟨_, rfl⟩
  rw [hsz] at S HSZ HSC
  have HSG := Lib.hid hsg
  have HM := Lib.hid hme
  rw [hme] at HR WD FC hw4 HSC
  rw [hsg] at WD FC
  have HL := Lib.hid hL
  have HLL := Lib.hid hLl
  have hi1 : (i : Int) < (s.size : Int) := by omega
  have hi0 : (0 : Int) ≤ (i : Int) := by omega
  have hmi : (s.size : Int) ≤ 4294967296 := by omega
  clear hc hb hg hl hL hLl hme hsg hsz
  by_cases h17 : 17 < c
  · have hz : sz = 0 := HSZ.out.2 h17
    subst hz
    have HN : Hid (decZ s.data.toList (i : Int) = none) := Lib.hid (by rw [HR.out, if_neg (fun hh => by omega)])
    clear HSZ HSC
    go_enter Tryz.func60, Tryz.ntmps60
    go_wp2_with fail
    rw [HC.out]
    refine (WD.out _).mono ?_
    rintro e w' ⟨rfl, rfl⟩
    go_wp2_with fail
    refine (S.out _).mono ?_
    rintro e w' ⟨rfl, rfl⟩
    go_wp2_with fail
    refine bodyPost_ret (v := .tuple #[.agg #[.int .i64 0, .int .i64 0], .int .i64 0, .bool false]) (by simp [results, Tryz.results60, go_sem]) rfl ⟨by rw [HN.out]; rfl, ?_⟩
    exact ((Below.refl _ _).alloc (Nat.le_refl _) _).alloc (by simp) _
  have h17' : c ≤ 17 := by omega
  have hsz : sz = 1 + (m : Int) := HSC.out h17'
  have hz : (sz == 0) = false := beq_eq_false_iff_ne.2 (by omega)
  clear hsz h17 HSZ HSC
  by_cases hfar : (s.size : Int) < (i : Int) + 1 + (m : Int)
  · have HN : Hid (decZ s.data.toList (i : Int) = none) := Lib.hid (by rw [HR.out, if_neg (fun hh => by have := HLL.out; omega)])
    go_enter Tryz.func60, Tryz.ntmps60
    go_wp2_with fail
    rw [HC.out]
    refine (WD.out _).mono ?_
    rintro e w' ⟨rfl, rfl⟩
    go_wp2_with fail
    refine (S.out _).mono ?_
    rintro e w' ⟨rfl, rfl⟩
    go_wp2_with fail
    refine bodyPost_ret (v := .tuple #[.agg #[.int .i64 0, .int .i64 0], .int .i64 0, .bool false]) (by simp [results, Tryz.results60, go_sem]) rfl ⟨by rw [HN.out]; rfl, ?_⟩
    exact ((Below.refl _ _).alloc (Nat.le_refl _) _).alloc (by simp) _
  have hnear : (i : Int) + 1 + (m : Int) ≤ (s.size : Int) := by omega
  have HN : Hid (decZ s.data.toList (i : Int) = some (⟨c, sgnV c (valB (L.take m))⟩, 1 + m)) := Lib.hid (by rw [HR.out, if_pos ⟨h17', by have := HLL.out; omega⟩])
  clear hfar
  go_enter Tryz.func60, Tryz.ntmps60
  go_wp2_with fail
  rw [HC.out]
  clear hwc
  refine (WD.out _).mono ?_
  rintro e w' ⟨rfl, rfl⟩
  go_wp2_with fail
  refine (S.out _).mono ?_
  rintro e w' ⟨rfl, rfl⟩
  go_wp2_with fail
  have HBA : Hid (Below w.heap.size w ((w.alloc (.cells #[.int .i64 0, .int .i64 0] 75)).alloc (.cells #[.int .i64 c, .int .i64 0] 75))) := Lib.hid (((Below.refl _ _).alloc (Nat.le_refl _) _).alloc (by simp) _)
  have HK0 : Hid (((w.alloc (.cells #[.int .i64 0, .int .i64 0] 75)).alloc (.cells #[.int .i64 c, .int .i64 0] 75)).heap[w.heap.size]? = some (.cells #[.int .i64 0, .int .i64 0] 75 (0, 0))) := Lib.hid (by
    have h := ((Below.refl _ _).alloc (Nat.le_refl _) (.cells #[.int .i64 c, .int .i64 0] 75) : Below (w.alloc (.cells #[.int .i64 0, .int .i64 0] 75)).heap.size (w.alloc (.cells #[.int .i64 0, .int .i64 0] 75)) _).block w.heap.size (by simp)
    exact h.trans (heap_alloc_new w _))
  have HK1 : Hid (((w.alloc (.cells #[.int .i64 0, .int .i64 0] 75)).alloc (.cells #[.int .i64 c, .int .i64 0] 75)).heap[w.heap.size + 1]? = some (.cells #[.int .i64 c, .int .i64 (valB (L.take 0) : Int)] 75 (0, 0))) := Lib.hid (by
    rw [HV0.out]
    have h := heap_alloc_new (w.alloc (.cells #[.int .i64 0, .int .i64 0] 75)) (.cells #[.int .i64 c, .int .i64 0] 75)
    simpa using h)
  go_loopw [10] (fun x wr => ∃ k : Nat, k ≤ m ∧ x = .int .i64 (k : Int) ∧ wr.heap[w.heap.size]? = some (.cells #[.int .i64 0, .int .i64 0] 75 (0, 0)) ∧ wr.heap[w.heap.size + 1]? = some (.cells #[.int .i64 c, .int .i64 (valB (L.take k) : Int)] 75 (0, 0)) ∧ Below w.heap.size w wr)
    (fun x _ => m - (intOf x).toNat)
  case atStart => exact ⟨0, by omega, rfl, HK0.out, HK1.out, HBA.out⟩
  case round =>
    obtain ⟨k, hk, rfl, hq0, hq1, hbel⟩ := hrel
    have HQ0 := Lib.hid hq0
    have HQ1 := Lib.hid hq1
    have HB := Lib.hid hbel
    have hgl : w.heap.size + 1 < wr.heap.size := (blk hq1).2.2
    clear hq0 hq1 hbel
    by_cases hlt : k < m
    · have d0 : wr.cell? ⟨w.heap.size + 1, 1, none⟩ = some (.int .i64 (valB (L.take k) : Int)) := (blk HQ1.out).1 1 _ rfl
      have f0 : wr.frozen? ⟨w.heap.size + 1, 1, none⟩ = false := (blk HQ1.out).2.1 1
      have k0 : (0 : Int) ≤ (k : Int) := by omega
      have k1 : (k : Int) < (m : Int) := by omega
      have k2 : (k : Int) < 4 := by omega
      have hidx : i + 1 + k < s.data.toList.length := by rw [list_len]; omega
      have hx0 : (0 : Int) ≤ (i : Int) + 1 + (k : Int) := by omega
      have hx1 : (i : Int) + 1 + (k : Int) < (s.size : Int) := by omega
      have NBk := Lib.hid (NB.out k (by omega) hidx)
      go_wp2_with fail
      go_region
      all_goals
        have HE : Hid (wrap64 ((valB (L.take k) : Int) + wrap64 (wrap64 ((s[i + 1 + k]'(by rw [list_len] at hidx; exact hidx)).toNat : Int) * 2 ^ (8 * k))) = (valB (L.take (k + 1)) : Int)) := Lib.hid (by
          have hb := (s[i + 1 + k]'(by rw [list_len] at hidx; exact hidx)).toNat_lt
          rw [show wrap64 ((s[i + 1 + k]'(by rw [list_len] at hidx; exact hidx)).toNat : Int) = ((s[i + 1 + k]'(by rw [list_len] at hidx; exact hidx)).toNat : Int) from by unfold wrap64; omega]
          have h1 := NBk.out.1
          have h2 := NBk.out.2.1
          rw [← h1] at h2
          exact h2)
        obtain ⟨E, hE⟩ : ∃ E, wrap64 ((valB (L.take k) : Int) + wrap64 (wrap64 ((s[i + 1 + k]'(by rw [list_len] at hidx; exact hidx)).toNat : Int) * 2 ^ (8 * k))) = E := ⟨_, rfl⟩
        rw [hE] at HE
        try rw [hE]
        have HQ0' : Hid ((wr.setCell ⟨w.heap.size + 1, 1, none⟩ (.int .i64 E)).drew.heap[w.heap.size]? = some (.cells #[.int .i64 0, .int .i64 0] 75 (0, 0))) := Lib.hid ((set_other (by omega)).trans HQ0.out)
        have HQ1' : Hid ((wr.setCell ⟨w.heap.size + 1, 1, none⟩ (.int .i64 E)).drew.heap[w.heap.size + 1]? = some (.cells #[.int .i64 c, .int .i64 (valB (L.take (k + 1)) : Int)] 75 (0, 0))) := Lib.hid (by rw [← HE.out]; exact heap_setCell_at HQ1.out _)
        have HB' : Hid (Below w.heap.size w (wr.setCell ⟨w.heap.size + 1, 1, none⟩ (.int .i64 E)).drew) := Lib.hid ((HB.out.grown (grown_setCell wr (w.heap.size + 1) 1 _) (by omega) (fun j hj => by injection hj with e; omega)).drew)
        clear hE d0 f0
        go_wp2
        go_roundw
        case rel => exact ⟨k + 1, by omega, by go_num, HQ0'.out, HQ1'.out, HB'.out⟩
        case measure => simp [intOf]; omega
    · have hkm : m = k := by omega
      subst hkm
      clear hlt hk
      obtain ⟨V, hV⟩ : ∃ V : Nat, valB (L.take m) = V := ⟨_, rfl⟩
      have HV : Hid (decZ s.data.toList (i : Int) = some (⟨c, sgnV c V⟩, 1 + m)) := Lib.hid (by rw [HN.out, ← hV])
      have hVl : V < 256 ^ m := by
        have h := valB_lt (L.take m)
        rw [List.length_take, hV] at h
        exact Nat.lt_of_lt_of_le h (Nat.pow_le_pow_right (by decide) (by omega))
      rw [hV] at HQ1
      clear hV
      rcases FC.out with ⟨hm1, hm2, _, _⟩ | ⟨hm1, hm2, _, _⟩ | ⟨hm1, hm2, _, _⟩ | ⟨hm1, hm2, _, _⟩ | ⟨hm1, hm2, _, _⟩
      · have HS : Hid (sgnV c V = (V : Int)) := Lib.hid (by unfold sgnV; rw [HSG.out, hm2, if_neg (by simp)])
        subst hm2
        clear hm1 hVl
        have HX0 := HQ0
        have HX1 := HQ1
        have HBX := HB
        go_wp2_with fail
        go_quiet (fail)
        have e0 : wr.cell? ⟨w.heap.size + 1, 0, none⟩ = some (.int .i64 c) := (blk HX1.out).1 0 _ rfl
        have e1 : wr.cell? ⟨w.heap.size + 1, 1, none⟩ = some (.int .i64 (V : Int)) := (blk HX1.out).1 1 _ rfl
        have g0 : wr.cell? ⟨w.heap.size, 0, none⟩ = some (.int .i64 0) := (blk HX0.out).1 0 _ rfl
        have g1 : wr.cell? ⟨w.heap.size, 1, none⟩ = some (.int .i64 0) := (blk HX0.out).1 1 _ rfl
        have p0 : wr.frozen? ⟨w.heap.size, 0, none⟩ = false := (blk HX0.out).2.1 0
        have p1 : wr.frozen? ⟨w.heap.size, 1, none⟩ = false := (blk HX0.out).2.1 1
        go_wp2_with fail
        refine bodyPost_ret (v := .tuple #[.agg #[.int .i64 c, .int .i64 (V : Int)], .int .i64 (1 + (m : Int)), .bool true]) (by simp [results, Tryz.results60, go_sem, g0, g1]) rfl ⟨?_, ?_⟩
        · rw [HV.out]
          show _ = Ending.returned (.tuple #[.agg #[.int .i64 c, .int .i64 (sgnV c V)], .int .i64 ((1 + m : Nat) : Int), .bool true])
          rw [HS.out, Int.natCast_add]
          rfl
        · exact ((below_drwS HBX.out _).setCell (Nat.le_refl _) _).setCell (Nat.le_refl _) _
      · have HS : Hid (sgnV c V = (V : Int)) := Lib.hid (by unfold sgnV; rw [HSG.out, hm2, if_neg (by simp)])
        subst hm2
        clear hm1 hVl
        have HX0 := HQ0
        have HX1 := HQ1
        have HBX := HB
        go_wp2_with fail
        go_quiet (fail)
        have e0 : wr.cell? ⟨w.heap.size + 1, 0, none⟩ = some (.int .i64 c) := (blk HX1.out).1 0 _ rfl
        have e1 : wr.cell? ⟨w.heap.size + 1, 1, none⟩ = some (.int .i64 (V : Int)) := (blk HX1.out).1 1 _ rfl
        have g0 : wr.cell? ⟨w.heap.size, 0, none⟩ = some (.int .i64 0) := (blk HX0.out).1 0 _ rfl
        have g1 : wr.cell? ⟨w.heap.size, 1, none⟩ = some (.int .i64 0) := (blk HX0.out).1 1 _ rfl
        have p0 : wr.frozen? ⟨w.heap.size, 0, none⟩ = false := (blk HX0.out).2.1 0
        have p1 : wr.frozen? ⟨w.heap.size, 1, none⟩ = false := (blk HX0.out).2.1 1
        go_wp2_with fail
        refine bodyPost_ret (v := .tuple #[.agg #[.int .i64 c, .int .i64 (V : Int)], .int .i64 (1 + (m : Int)), .bool true]) (by simp [results, Tryz.results60, go_sem, g0, g1]) rfl ⟨?_, ?_⟩
        · rw [HV.out]
          show _ = Ending.returned (.tuple #[.agg #[.int .i64 c, .int .i64 (sgnV c V)], .int .i64 ((1 + m : Nat) : Int), .bool true])
          rw [HS.out, Int.natCast_add]
          rfl
        · exact ((below_drwS HBX.out _).setCell (Nat.le_refl _) _).setCell (Nat.le_refl _) _
      · have HS : Hid (sgnV c V = (V : Int)) := Lib.hid (by unfold sgnV; rw [HSG.out, hm2, if_neg (by simp)])
        subst hm2
        clear hm1 hVl
        have HX0 := HQ0
        have HX1 := HQ1
        have HBX := HB
        go_wp2_with fail
        go_quiet (fail)
        have e0 : wr.cell? ⟨w.heap.size + 1, 0, none⟩ = some (.int .i64 c) := (blk HX1.out).1 0 _ rfl
        have e1 : wr.cell? ⟨w.heap.size + 1, 1, none⟩ = some (.int .i64 (V : Int)) := (blk HX1.out).1 1 _ rfl
        have g0 : wr.cell? ⟨w.heap.size, 0, none⟩ = some (.int .i64 0) := (blk HX0.out).1 0 _ rfl
        have g1 : wr.cell? ⟨w.heap.size, 1, none⟩ = some (.int .i64 0) := (blk HX0.out).1 1 _ rfl
        have p0 : wr.frozen? ⟨w.heap.size, 0, none⟩ = false := (blk HX0.out).2.1 0
        have p1 : wr.frozen? ⟨w.heap.size, 1, none⟩ = false := (blk HX0.out).2.1 1
        go_wp2_with fail
        refine bodyPost_ret (v := .tuple #[.agg #[.int .i64 c, .int .i64 (V : Int)], .int .i64 (1 + (m : Int)), .bool true]) (by simp [results, Tryz.results60, go_sem, g0, g1]) rfl ⟨?_, ?_⟩
        · rw [HV.out]
          show _ = Ending.returned (.tuple #[.agg #[.int .i64 c, .int .i64 (sgnV c V)], .int .i64 ((1 + m : Nat) : Int), .bool true])
          rw [HS.out, Int.natCast_add]
          rfl
        · exact ((below_drwS HBX.out _).setCell (Nat.le_refl _) _).setCell (Nat.le_refl _) _
      · subst hm1
        subst hm2
        have hVl' : (V : Int) < 65536 := by
          have : (256 : Nat) ^ 2 = 65536 := by decide
          omega
        by_cases hbig : (32768 : Int) ≤ (V : Int)
        · have HS : Hid (sgnV c V = (V : Int) - 65536) := Lib.hid (by
            have : (256 : Nat) ^ 2 = 65536 := by decide
            unfold sgnV; rw [HSG.out, HM.out, this, if_pos ⟨rfl, by omega⟩]; rfl)
          have d1 : wr.cell? ⟨w.heap.size + 1, 1, none⟩ = some (.int .i64 (V : Int)) := (blk HQ1.out).1 1 _ rfl
          have f1 : wr.frozen? ⟨w.heap.size + 1, 1, none⟩ = false := (blk HQ1.out).2.1 1
          clear hVl
          go_wp2_with fail
          go_quiet (fail)
          go_wp2_with fail
          have HX0 : Hid (((wr.drewN (nq + 1)).setCell ⟨w.heap.size + 1, 1, none⟩ (.int .i64 ((V : Int) - 65536))).heap[w.heap.size]? = some (.cells #[.int .i64 0, .int .i64 0] 75 (0, 0))) := Lib.hid ((set_other (w := wr.drewN (nq + 1)) (by omega)).trans HQ0.out)
          have HX1 : Hid (((wr.drewN (nq + 1)).setCell ⟨w.heap.size + 1, 1, none⟩ (.int .i64 ((V : Int) - 65536))).heap[w.heap.size + 1]? = some (.cells #[.int .i64 c, .int .i64 ((V : Int) - 65536)] 75 (0, 0))) := Lib.hid (heap_setCell_at (w := wr.drewN (nq + 1)) HQ1.out _)
          have HBX : Hid (Below w.heap.size w ((wr.drewN (nq + 1)).setCell ⟨w.heap.size + 1, 1, none⟩ (.int .i64 ((V : Int) - 65536)))) := Lib.hid ((below_drwS HB.out (nq + 1)).grown (grown_setCell (wr.drewN (nq + 1)) (w.heap.size + 1) 1 _) (show w.heap.size ≤ wr.heap.size by omega) (fun j hj => by injection hj with e; omega))
          go_region
          all_goals
            obtain ⟨wz, hwz⟩ : ∃ wz, (wr.drewN (nq + 1)).setCell ⟨w.heap.size + 1, 1, none⟩ (.int .i64 ((V : Int) - 65536)) = wz := ⟨_, rfl⟩
            rw [hwz] at HX0 HX1 HBX
            try rw [hwz]
            clear hwz d1 f1 HQ0 HQ1 HB
            have e0 : wz.cell? ⟨w.heap.size + 1, 0, none⟩ = some (.int .i64 c) := (blk HX1.out).1 0 _ rfl
            have e1 : wz.cell? ⟨w.heap.size + 1, 1, none⟩ = some (.int .i64 ((V : Int) - 65536)) := (blk HX1.out).1 1 _ rfl
            have g0 : wz.cell? ⟨w.heap.size, 0, none⟩ = some (.int .i64 0) := (blk HX0.out).1 0 _ rfl
            have g1 : wz.cell? ⟨w.heap.size, 1, none⟩ = some (.int .i64 0) := (blk HX0.out).1 1 _ rfl
            have p0 : wz.frozen? ⟨w.heap.size, 0, none⟩ = false := (blk HX0.out).2.1 0
            have p1 : wz.frozen? ⟨w.heap.size, 1, none⟩ = false := (blk HX0.out).2.1 1
            go_wp2_with fail
            refine bodyPost_ret (v := .tuple #[.agg #[.int .i64 c, .int .i64 ((V : Int) - 65536)], .int .i64 (3), .bool true]) (by simp [results, Tryz.results60, go_sem, g0, g1]) rfl ⟨?_, ?_⟩
            · rw [HV.out]
              show _ = Ending.returned (.tuple #[.agg #[.int .i64 c, .int .i64 (sgnV c V)], .int .i64 ((1 + 2 : Nat) : Int), .bool true])
              rw [HS.out, Int.natCast_add]
              rfl
            · exact ((HBX.out).setCell (Nat.le_refl _) _).setCell (Nat.le_refl _) _
        · have HS : Hid (sgnV c V = (V : Int)) := Lib.hid (by
            have : (256 : Nat) ^ 2 = 65536 := by decide
            unfold sgnV; rw [HSG.out, HM.out, this, if_neg (fun h => by have := h.2; omega)])
          have d1 : wr.cell? ⟨w.heap.size + 1, 1, none⟩ = some (.int .i64 (V : Int)) := (blk HQ1.out).1 1 _ rfl
          have hd : decide ((32768 : Int) ≤ (V : Int)) = false := decide_eq_false hbig
          clear hVl hVl' hbig
          have HX0 := HQ0
          have HX1 := HQ1
          have HBX := HB
          go_wp2_with fail
          go_quiet (fail)
          have e0 : wr.cell? ⟨w.heap.size + 1, 0, none⟩ = some (.int .i64 c) := (blk HX1.out).1 0 _ rfl
          have e1 : wr.cell? ⟨w.heap.size + 1, 1, none⟩ = some (.int .i64 (V : Int)) := (blk HX1.out).1 1 _ rfl
          have g0 : wr.cell? ⟨w.heap.size, 0, none⟩ = some (.int .i64 0) := (blk HX0.out).1 0 _ rfl
          have g1 : wr.cell? ⟨w.heap.size, 1, none⟩ = some (.int .i64 0) := (blk HX0.out).1 1 _ rfl
          have p0 : wr.frozen? ⟨w.heap.size, 0, none⟩ = false := (blk HX0.out).2.1 0
          have p1 : wr.frozen? ⟨w.heap.size, 1, none⟩ = false := (blk HX0.out).2.1 1
          go_wp2_with fail
          refine bodyPost_ret (v := .tuple #[.agg #[.int .i64 c, .int .i64 (V : Int)], .int .i64 (3), .bool true]) (by simp [results, Tryz.results60, go_sem, g0, g1]) rfl ⟨?_, ?_⟩
          · rw [HV.out]
            show _ = Ending.returned (.tuple #[.agg #[.int .i64 c, .int .i64 (sgnV c V)], .int .i64 ((1 + 2 : Nat) : Int), .bool true])
            rw [HS.out, Int.natCast_add]
            rfl
          · exact ((below_drwS HBX.out _).setCell (Nat.le_refl _) _).setCell (Nat.le_refl _) _
      · subst hm1
        subst hm2
        have hVl' : (V : Int) < 4294967296 := by
          have : (256 : Nat) ^ 4 = 4294967296 := by decide
          omega
        by_cases hbig : (2147483648 : Int) ≤ (V : Int)
        · have HS : Hid (sgnV c V = (V : Int) - 4294967296) := Lib.hid (by
            have : (256 : Nat) ^ 4 = 4294967296 := by decide
            unfold sgnV; rw [HSG.out, HM.out, this, if_pos ⟨rfl, by omega⟩]; rfl)
          have d1 : wr.cell? ⟨w.heap.size + 1, 1, none⟩ = some (.int .i64 (V : Int)) := (blk HQ1.out).1 1 _ rfl
          have f1 : wr.frozen? ⟨w.heap.size + 1, 1, none⟩ = false := (blk HQ1.out).2.1 1
          clear hVl
          go_wp2_with fail
          go_quiet (fail)
          go_wp2_with fail
          have HX0 : Hid (((wr.drewN (nq + 1)).setCell ⟨w.heap.size + 1, 1, none⟩ (.int .i64 ((V : Int) - 4294967296))).heap[w.heap.size]? = some (.cells #[.int .i64 0, .int .i64 0] 75 (0, 0))) := Lib.hid ((set_other (w := wr.drewN (nq + 1)) (by omega)).trans HQ0.out)
          have HX1 : Hid (((wr.drewN (nq + 1)).setCell ⟨w.heap.size + 1, 1, none⟩ (.int .i64 ((V : Int) - 4294967296))).heap[w.heap.size + 1]? = some (.cells #[.int .i64 c, .int .i64 ((V : Int) - 4294967296)] 75 (0, 0))) := Lib.hid (heap_setCell_at (w := wr.drewN (nq + 1)) HQ1.out _)
          have HBX : Hid (Below w.heap.size w ((wr.drewN (nq + 1)).setCell ⟨w.heap.size + 1, 1, none⟩ (.int .i64 ((V : Int) - 4294967296)))) := Lib.hid ((below_drwS HB.out (nq + 1)).grown (grown_setCell (wr.drewN (nq + 1)) (w.heap.size + 1) 1 _) (show w.heap.size ≤ wr.heap.size by omega) (fun j hj => by injection hj with e; omega))
          go_region
          all_goals
            obtain ⟨wz, hwz⟩ : ∃ wz, (wr.drewN (nq + 1)).setCell ⟨w.heap.size + 1, 1, none⟩ (.int .i64 ((V : Int) - 4294967296)) = wz := ⟨_, rfl⟩
            rw [hwz] at HX0 HX1 HBX
            try rw [hwz]
            clear hwz d1 f1 HQ0 HQ1 HB
            have e0 : wz.cell? ⟨w.heap.size + 1, 0, none⟩ = some (.int .i64 c) := (blk HX1.out).1 0 _ rfl
            have e1 : wz.cell? ⟨w.heap.size + 1, 1, none⟩ = some (.int .i64 ((V : Int) - 4294967296)) := (blk HX1.out).1 1 _ rfl
            have g0 : wz.cell? ⟨w.heap.size, 0, none⟩ = some (.int .i64 0) := (blk HX0.out).1 0 _ rfl
            have g1 : wz.cell? ⟨w.heap.size, 1, none⟩ = some (.int .i64 0) := (blk HX0.out).1 1 _ rfl
            have p0 : wz.frozen? ⟨w.heap.size, 0, none⟩ = false := (blk HX0.out).2.1 0
            have p1 : wz.frozen? ⟨w.heap.size, 1, none⟩ = false := (blk HX0.out).2.1 1
            go_wp2_with fail
            refine bodyPost_ret (v := .tuple #[.agg #[.int .i64 c, .int .i64 ((V : Int) - 4294967296)], .int .i64 (5), .bool true]) (by simp [results, Tryz.results60, go_sem, g0, g1]) rfl ⟨?_, ?_⟩
            · rw [HV.out]
              show _ = Ending.returned (.tuple #[.agg #[.int .i64 c, .int .i64 (sgnV c V)], .int .i64 ((1 + 4 : Nat) : Int), .bool true])
              rw [HS.out, Int.natCast_add]
              rfl
            · exact ((HBX.out).setCell (Nat.le_refl _) _).setCell (Nat.le_refl _) _
        · have HS : Hid (sgnV c V = (V : Int)) := Lib.hid (by
            have : (256 : Nat) ^ 4 = 4294967296 := by decide
            unfold sgnV; rw [HSG.out, HM.out, this, if_neg (fun h => by have := h.2; omega)])
          have d1 : wr.cell? ⟨w.heap.size + 1, 1, none⟩ = some (.int .i64 (V : Int)) := (blk HQ1.out).1 1 _ rfl
          have hd : decide ((2147483648 : Int) ≤ (V : Int)) = false := decide_eq_false hbig
          clear hVl hVl' hbig
          have HX0 := HQ0
          have HX1 := HQ1
          have HBX := HB
          go_wp2_with fail
          go_quiet (fail)
          have e0 : wr.cell? ⟨w.heap.size + 1, 0, none⟩ = some (.int .i64 c) := (blk HX1.out).1 0 _ rfl
          have e1 : wr.cell? ⟨w.heap.size + 1, 1, none⟩ = some (.int .i64 (V : Int)) := (blk HX1.out).1 1 _ rfl
          have g0 : wr.cell? ⟨w.heap.size, 0, none⟩ = some (.int .i64 0) := (blk HX0.out).1 0 _ rfl
          have g1 : wr.cell? ⟨w.heap.size, 1, none⟩ = some (.int .i64 0) := (blk HX0.out).1 1 _ rfl
          have p0 : wr.frozen? ⟨w.heap.size, 0, none⟩ = false := (blk HX0.out).2.1 0
          have p1 : wr.frozen? ⟨w.heap.size, 1, none⟩ = false := (blk HX0.out).2.1 1
          go_wp2_with fail
          refine bodyPost_ret (v := .tuple #[.agg #[.int .i64 c, .int .i64 (V : Int)], .int .i64 (5), .bool true]) (by simp [results, Tryz.results60, go_sem, g0, g1]) rfl ⟨?_, ?_⟩
          · rw [HV.out]
            show _ = Ending.returned (.tuple #[.agg #[.int .i64 c, .int .i64 (sgnV c V)], .int .i64 ((1 + 4 : Nat) : Int), .bool true])
            rw [HS.out, Int.natCast_add]
            rfl
          · exact ((below_drwS HBX.out _).setCell (Nat.le_refl _) _).setCell (Nat.le_refl _) _
end Go.Proofs.YtakgjlpgcepnkaaGreat

/-! DecodeOp, the model's, at any index -/
namespace Go.Proofs.YtakgjlpgcepnkaaGreat
open Go.RowKit Go.Lib

theorem at_cases (s : ByteArray) (a : Int) : (a < 0 ∨ (s.size : Int) ≤ a) ∨ ∃ i : Nat, i < s.size ∧ a = (i : Int) := by
  by_cases h : a < 0 ∨ (s.size : Int) ≤ a
  · exact .inl h
  · exact .inr ⟨a.toNat, by omega, by omega⟩
theorem s_dec7 (s : ByteArray) (a : Int) (w : World) (hm : s.size ≤ 4294967296) :
    Calls Tryz.prog 60 #[.string s, .int .i64 a] w fun e w' => e = .returned (decV (decZ s.data.toList a)) ∧ Below w.heap.size w w' := by
  rcases at_cases s a with h | ⟨i, hi, rfl⟩
  · exact s_dec_out s a w (by unfold maxLen; omega) h
  · exact s_dec_in s i w hm hi
theorem decV_shape (o : Option (OpL × Nat)) : ∃ (c a n : Int) (b : Bool), decV o = .tuple #[.agg #[.int .i64 c, .int .i64 a], .int .i64 n, .bool b] := by
  cases o with
  | none => exact ⟨_, _, _, _, rfl⟩
  | some y => exact ⟨_, _, _, _, rfl⟩
end Go.Proofs.YtakgjlpgcepnkaaGreat

/-! Disassemble, the model's and the program's: rows of instructions -/
namespace Go.Proofs.YtakgjlpgcepnkaaGreat
open Go.RowKit Go.Lib

def opV (L : List OpL) : List Value := L.flatMap fun x => [.int .i64 x.code, .int .i64 x.arg]
theorem opV_append (A B : List OpL) : opV (A ++ B) = opV A ++ opV B := by unfold opV; rw [List.flatMap_append]
theorem infoO : (Tryz.prog.info? 75).map (fun i => (i.zero, i.size, i.bytes)) = some (some (.agg #[.int .i64 0, .int .i64 0]), 2, 16) := by kernel_rfl
/-- What Disassemble returns: the row, and whether there is one. -/
def disL (l : List UInt8) : List OpL := (disZ l).getD []
def disB (l : List UInt8) : Bool := (disZ l).isSome
theorem decZ_drop (l : List UInt8) (k : Nat) : decZ l (k : Int) = dec1 (l.drop k) := by unfold decZ; rw [if_neg (by omega), Int.toNat_natCast]
/-- How far a walk has come. -/
def Dis (l : List UInt8) (k : Nat) (D : List OpL) : Prop := disZ l = (disZ (l.drop k)).map (D ++ ·) ∧ D.length ≤ k ∧ k ≤ l.length
theorem Dis.start (l : List UInt8) : Dis l 0 [] := ⟨by rw [List.drop_zero]; cases disZ l <;> rfl, Nat.le_refl _, Nat.zero_le _⟩
theorem Dis.next {l : List UInt8} {k : Nat} {D : List OpL} (h : Dis l k D) {x : OpL} {n : Nat} (hx : dec1 (l.drop k) = some (x, n)) : Dis l (k + n) (D ++ [x]) := by
  have hs := dec1_size _ _ _ hx
  rw [List.length_drop] at hs
  refine ⟨?_, by rw [List.length_append, List.length_singleton]; have := h.2.1; omega, by omega⟩
  rw [h.1, disZ_next _ _ _ hx, List.drop_drop]
  cases disZ (l.drop (k + n)) with
  | none => rfl
  | some q => simp
theorem Dis.bad {l : List UInt8} {k : Nat} {D : List OpL} (h : Dis l k D) (hk : k < l.length) (hx : dec1 (l.drop k) = none) : disL l = [] ∧ disB l = false := by
  have : disZ l = none := by rw [h.1, disZ_bad _ (by intro e; have := congrArg List.length e; rw [List.length_drop] at this; simp at this; omega) hx]; rfl
  unfold disL disB
  rw [this]
  exact ⟨rfl, rfl⟩
theorem Dis.done {l : List UInt8} {k : Nat} {D : List OpL} (h : Dis l k D) (hk : k = l.length) : disL l = D ∧ disB l = true := by
  have : disZ l = some D := by rw [h.1, hk, List.drop_length, disZ_nil]; simp
  unfold disL disB
  rw [this]
  exact ⟨rfl, rfl⟩
/-- A row of instructions that a call has made. -/
def OpRow (B : Nat) (L : List OpL) (b : Bool) (w : World) (e : Ending) (w' : World) : Prop :=
  ∃ v, e = .returned (.tuple #[v, .bool b]) ∧ w'.ownsRow B 75 2 v L.length (opV L) ∧ Below B w w'
theorem below_appO {B e n s : Nat} {w0 wr w1 : World} {X : Obj} {v : Value} {xs : List Value} (hown : wr.ownsRow B e s v n xs) (hbel : Below B w0 wr) (hB : B ≤ wr.heap.size)
    (hg : (wr.alloc X).grownBy w1 v.ownBlock) : Below B w0 w1 :=
  (hbel.alloc hB X).grown hg (by simp; omega) (fun k hk => (hown.lt k hk).1)
end Go.Proofs.YtakgjlpgcepnkaaGreat

/-! Disassemble, the model's -/
namespace Go.Proofs.YtakgjlpgcepnkaaGreat
open Go.RowKit Go.Lib

set_option maxRecDepth 100000 in
set_option maxHeartbeats 1000000 in
theorem s_dis (s : ByteArray) (w : World) (hm : s.size ≤ 1048576) :
    Calls Tryz.prog 59 #[.string s] w (OpRow w.heap.size (disL s.data.toList) (disB s.data.toList) w) := by
  obtain ⟨i0, hi, hz0, hz1, hz2⟩ := info_parts infoO
  have hll : s.data.toList.length = s.size := list_len s
  have HLL := Lib.hid hll
  have DC := Lib.hid (fun W (x : Int) => s_dec7 s x W (by omega))
  have ST := Lib.hid (Dis.start s.data.toList)
  have hms : (s.size : Int) ≤ 1048576 := by omega
  clear hll
  go_enter Tryz.func59, Tryz.ntmps59
  go_wp2_with fail
  have HO0 : Hid ((w.alloc (.cells #[] 75)).ownsRow w.heap.size 75 2 (.slice (some ⟨w.heap.size, 0, none⟩) 0 0) ([] : List OpL).length (opV [])) := Lib.hid (World.ownsRow_lit (base := w.heap.size) (e := 75) (size := 2) w #[] 0 (Nat.le_refl _) (by decide) rfl)
  have HB0 : Hid (Below w.heap.size w (w.alloc (.cells #[] 75))) := Lib.hid ((Below.refl _ _).alloc (Nat.le_refl _) _)
  go_loopw [4, 5, 6, 7, 8] (fun v x _ _ _ wr => ∃ (k : Nat) (D : List OpL), x = .int .i64 (k : Int) ∧ Dis s.data.toList k D ∧ wr.ownsRow w.heap.size 75 2 v D.length (opV D) ∧ Below w.heap.size w wr)
    (fun _ x _ _ _ _ => s.size - (intOf x).toNat)
  case atStart => exact ⟨0, [], rfl, ST.out, HO0.out, HB0.out⟩
  case round =>
    obtain ⟨k, D, rfl, hD, hown, hbel⟩ := hrel
    have HD := Lib.hid hD
    have HO := Lib.hid hown
    have HB := Lib.hid hbel
    have hB := hbel.size
    have hk : k ≤ s.size := by have := hD.2.2; have := HLL.out; omega
    have hDl : D.length ≤ k := hD.2.1
    have HZ := Lib.hid (decZ_drop s.data.toList k)
    clear hD hown hbel
    by_cases hlt : k < s.size
    · have k0 : (0 : Int) ≤ (k : Int) := by omega
      have k1 : (k : Int) < (s.size : Int) := by omega
      cases hx : dec1 (s.data.toList.drop k) with
      | none =>
        have HN := Lib.hid (HD.out.bad (by have := HLL.out; omega) hx)
        have DCk : Hid (∀ W : World, Calls Tryz.prog 60 #[.string s, .int .i64 (k : Int)] W fun e w' => e = .returned (.tuple #[.agg #[.int .i64 0, .int .i64 0], .int .i64 0, .bool false]) ∧ Below W.heap.size W w') := Lib.hid (fun W => by
          have h := DC.out W (k : Int)
          rw [HZ.out, hx] at h
          exact h)
        clear hx
        go_wp2_with fail
        refine (DCk.out _).mono ?_
        rintro e w1 ⟨rfl, b1⟩
        have HB1 : Hid (Below w.heap.size w w1) := Lib.hid (HB.out.trans (b1.mono (by omega)))
        have z1 := b1.size
        clear b1
        go_wp2
        go_ret2
        rw [HN.out.1, HN.out.2]
        have z2 : w.heap.size ≤ (w1.alloc (.cells #[.int .i64 0, .int .i64 0] 75)).heap.size := by simp; omega
        have h := World.ownsRow_lit (base := w.heap.size) (e := 75) (size := 2) (w1.alloc (.cells #[.int .i64 0, .int .i64 0] 75)) #[] 0 z2 (by decide) rfl
        exact ⟨_, rfl, by simpa [opV] using h, (HB1.out.alloc (by omega) _).alloc z2 _⟩
      | some y =>
        obtain ⟨⟨xc, xa⟩, n⟩ := y
        have HN := Lib.hid (HD.out.next hx)
        have hsz := dec1_size _ _ _ hx
        rw [List.length_drop, HLL.out] at hsz
        have DCk : Hid (∀ W : World, Calls Tryz.prog 60 #[.string s, .int .i64 (k : Int)] W fun e w' => e = .returned (.tuple #[.agg #[.int .i64 xc, .int .i64 xa], .int .i64 (n : Int), .bool true]) ∧ Below W.heap.size W w') := Lib.hid (fun W => by
          have h := DC.out W (k : Int)
          rw [HZ.out, hx] at h
          exact h)
        have n0 : (0 : Int) ≤ (n : Int) := by omega
        have n1 : (k : Int) + (n : Int) ≤ (s.size : Int) := by omega
        have hn1 := hsz.1
        clear hx hsz
        go_wp2_with fail
        refine (DCk.out _).mono ?_
        rintro e w1 ⟨rfl, b1⟩
        have HB1 : Hid (Below w.heap.size w w1) := Lib.hid (HB.out.trans (b1.mono (by omega)))
        have hown1 := owns3_below HO.out b1
        have z1 := b1.size
        have h63 : D.length + 1 ≤ maxLen := by unfold maxLen; omega
        have hby : (D.length + 1) * 16 ≤ 140737488355328 := by omega
        have hown2 := hown1.alloc (.cells #[.int .i64 xc, .int .i64 xa] 75)
        have HB2 : Hid (Below w.heap.size w (w1.alloc (.cells #[.int .i64 xc, .int .i64 xa] 75))) := Lib.hid (HB1.out.alloc (by omega) _)
        clear b1
        go_wp2_with (at_builtin; refine wpList_append_own _ rfl _ _ 102 rfl w.heap.size 75 i0 _ 2 16 Tryz.underlying102 hi hz0 hz1 hz2 rfl (by decide) _ _ _ rfl (hown2.alloc _) ⟨w1.heap.size + 1, 0, none⟩ 1 1 [.int .i64 xc, .int .i64 xa] rfl rfl ?c1 ?c2 h63 hby ?c5 ?_)
        case c1 =>
          have hb := heap_alloc_new (w1.alloc (.cells #[.int .i64 xc, .int .i64 xa] 75)) (.cells #[.int .i64 xc, .int .i64 xa] 75)
          have hb' : (World.alloc (w1.alloc (.cells #[.int .i64 xc, .int .i64 xa] 75)) (.cells #[.int .i64 xc, .int .i64 xa] 75)).heap[w1.heap.size + 1]? = some (.cells #[.int .i64 xc, .int .i64 xa] 75 (0, 0)) := by simpa using hb
          exact World.news_of_block hb'
        case c2 => intro u hu; simp at hu; rcases hu with rfl | rfl <;> rfl
        case c5 => simp; omega
        intro v' w3 hown3 hgrow _
        have HO4 : Hid (w3.ownsRow w.heap.size 75 2 v' (D ++ [(⟨xc, xa⟩ : OpL)]).length (opV (D ++ [(⟨xc, xa⟩ : OpL)]))) := Lib.hid (by rw [opV_append, List.length_append]; exact hown3)
        have HB3 := Lib.hid (below_appO hown2 HB2.out (by simp; omega) hgrow)
        clear hown1 hown2 hown3 hgrow
        go_wp2
        go_roundw
        case rel => exact ⟨k + n, D ++ [(⟨xc, xa⟩ : OpL)], by go_num, HN.out, HO4.out, HB3.out⟩
        case measure => simp [intOf]; omega
    · have HN := Lib.hid (HD.out.done (show k = s.data.toList.length by have := HLL.out; omega))
      have k1 : ¬ (k : Int) < (s.size : Int) := by omega
      go_wp2
      go_ret2
      rw [HN.out.1, HN.out.2]
      exact ⟨_, rfl, HO.out, HB.out⟩
end Go.Proofs.YtakgjlpgcepnkaaGreat
